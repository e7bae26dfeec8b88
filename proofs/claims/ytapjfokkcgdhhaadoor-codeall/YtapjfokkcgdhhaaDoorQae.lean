import Derived.Test.YtapjfokkcgdhhaaDoorQad
namespace Go.Proofs.YtapjfokkcgdhhaaDoor
open Go.RowKit
set_option linter.unusedVariables false
set_option linter.unusedSimpArgs false

theorem caught_nil (w : World) : Calls Tryd.prog 24 #[.nilIface] w fun x w' => x = .returned (.tuple #[.int .i64 0, .int .i64 0]) ∧ w' = w := by
  go_enter Tryd.func24, Tryd.ntmps24
  go_wp2
  go_ret2
  exact ⟨rfl, rfl⟩
set_option maxRecDepth 100000 in
set_option maxHeartbeats 1000000 in
theorem caught_stop (e a : Int) (w : World) (hT : Ty w) : Calls Tryd.prog 24 #[.iface 85 (.agg #[.int .i64 e, .int .i64 a])] w fun x w' => x = .returned (.tuple #[.int .i64 a, .int .i64 e]) ∧ Out 0 0 w w' := by
  have h1 : ∀ W, (binOp .eql 20 (.iface 85 (.agg #[.int .i64 e, .int .i64 a])) .nilIface).run Tryd.prog W = .ok (.bool false) W := fun W => by kernel_rfl
  have h2 : ∀ W, (Instr.typeAssert (.iface 85 (.agg #[.int .i64 e, .int .i64 a])) 20 82 true).run Tryd.prog W = .ok (.tuple #[.iface 85 (.agg #[.int .i64 e, .int .i64 a]), .bool true]) W := fun W => by kernel_rfl
  have HA := hid_mk (As_hit e a (hT.out ((Out.refl 0 0 w).alloc (.cells #[.int .i64 0, .int .i64 0] 85)) (.inr rfl)) (Bl.new w #[.int .i64 0, .int .i64 0] 85))
  clear hT
  go_enter Tryd.func24, Tryd.ntmps24
  go_wp2_with (go_at_call 38; refine HA.out.mono ?_; rintro ev w2 ⟨rfl, hb2, ho2⟩; have d0 := hb2.cell (i := 0) rfl; have d1 := hb2.cell (i := 1) rfl; have HO2 := hid_mk ho2; clear ho2 hb2)
  go_region
  go_wp2
  go_ret2
  exact ⟨rfl, (((Out.refl 0 0 w).alloc _).past HO2.out (Nat.le_refl _)).drew⟩
theorem setE {w : World} {g : Nat} {x : Int} (hg : Bl w g #[.int .i64 x] 43) (y : Int) : Bl (w.setCell ⟨g, 0, none⟩ (.int .i64 y)) g #[.int .i64 y] 43 ∧ Out g (g + 1) w (w.setCell ⟨g, 0, none⟩ (.int .i64 y)) :=
  ⟨hg.set 0 _, (Out.refl g (g + 1) w).setCell (p := ⟨g, 0, none⟩) (.inl ⟨Nat.le_refl _, Nat.lt_succ_self _⟩) _⟩
theorem catchW_idle {g : Nat} {x : Int} {w : World} (hg : Bl w g #[.int .i64 x] 43) :
    CallsD Tryd.prog 23 #[.pointer (some ⟨g, 0, none⟩)] .returning w fun e u' w' => e = .returned (.tuple #[]) ∧ u' = .returning ∧ Bl w' g #[.int .i64 0] 43 ∧ Out g (g + 1) w w' := by
  refine callsD_of_wpS Tryd.func23 rfl fun c₀ cs hu => ?_
  apply wpS_region
  simp [wpOpsS, go_sem, recoverD, hu, Tryd.ntmps23, Exit.thenS]
  refine calls_same (caught_nil w) ?_
  have a1 := hg.cell (i := 0) rfl
  have a2 := hg.frozen 0
  have h2 := setE hg 0
  simp [go_sem, storeCells, a1, a2, bodyPostS, results, Tryd.results23]
  cases c₀
  simp_all
theorem catchW_stop {g : Nat} {x e a : Int} {older : List PanicEntry} {w : World} (hT : Ty w) (hg : Bl w g #[.int .i64 x] 43) :
    CallsD Tryd.prog 23 #[.pointer (some ⟨g, 0, none⟩)] (.panicking (stopP e a :: older)) w fun e' u' w' => e' = .returned (.tuple #[]) ∧ u' = .panicking ({ v := .iface 85 (.agg #[.int .i64 e, .int .i64 a]), recovered := true } :: older) ∧ Bl w' g #[.int .i64 e] 43 ∧ Out g (g + 1) w w' := by
  refine callsD_of_wpS Tryd.func23 rfl fun c₀ cs hu => ?_
  apply wpS_region
  unfold stopP at hu
  simp [wpOpsS, go_sem, recoverD, hu, Tryd.ntmps23, Exit.thenS]
  refine (caught_stop e a w hT).mono ?_
  rintro e' w1 ⟨rfl, o1⟩
  have h1 := hg.kept o1 (.inr (Nat.zero_le _))
  have a1 := h1.cell (i := 0) rfl
  have a2 := h1.frozen 0
  have h2 := setE h1 e
  have h3 := (o1.any g (g + 1)).trans h2.2
  simp [go_sem, storeCells, a1, a2, bodyPostS, results, Tryd.results23]
  exact ⟨h2.1, h3⟩
end Go.Proofs.YtapjfokkcgdhhaaDoor
namespace Go.Proofs.YtapjfokkcgdhhaaDoor
open Go.RowKit
set_option linter.unusedVariables false
set_option linter.unusedSimpArgs false

/-- the error of Write, its bytes -/
noncomputable def wrE (P : Int × List (List Int) × List (Int × Int × Int × List (Int × Int))) : Int := open Classical in if okP P then (if (encP P).length ≤ 65536 then 0 else 2) else 62
noncomputable def wrB (P : Int × List (List Int) × List (Int × Int × Int × List (Int × Int))) : List Int := open Classical in if okP P then (if (encP P).length ≤ 65536 then encP P else []) else []
theorem wr_ok {P : Int × List (List Int) × List (Int × Int × Int × List (Int × Int))} (h : okP P) (hl : (encP P).length ≤ 65536) : wrE P = 0 ∧ wrB P = encP P := by
  unfold wrE wrB; rw [if_pos h, if_pos h, if_pos hl, if_pos hl]; exact ⟨rfl, rfl⟩
theorem wr_long {P : Int × List (List Int) × List (Int × Int × Int × List (Int × Int))} (h : okP P) (hl : 65536 < (encP P).length) : wrE P = 2 ∧ wrB P = [] := by
  unfold wrE wrB; rw [if_pos h, if_pos h, if_neg (by omega), if_neg (by omega)]; exact ⟨rfl, rfl⟩
theorem wr_form {P : Int × List (List Int) × List (Int × Int × Int × List (Int × Int))} (h : ¬ okP P) : wrE P = 62 ∧ wrB P = [] := by
  unfold wrE wrB; rw [if_neg h, if_neg h]; exact ⟨rfl, rfl⟩
theorem leaves_ret {P : Program} {fn : Func} {t : Array Value} {R : Ending → World → Prop} {w : World} {v : Value} (h : (results fn t).run P w = .ok v w) (hR : R (.returned v) w) : Leaves P fn t R [] .returning w := ⟨v, h, hR⟩
theorem results_tc {P : Program} {fn : Func} {u p : Tmp} {T : TypeId} {t : Array Value} {w : World} {v x : Value} {A : Addr} (hr : fn.results = #[.tmp u, .cell p T]) (hu : t.getD u undef = v) (hp : t.getD p undef = .pointer (some A)) (r : (loadVar T A).run P w = .ok x w) : (results fn t).run P w = .ok (.tuple #[v, x]) w := by
  have hu' : t[u]?.getD undef = v := by simpa using hu
  have hp' : t[p]?.getD undef = .pointer (some A) := by simpa using hp
  simp only [results, hr]
  simp [Sem.run_bind, hu', hp', asAddr, r, Result.andThen]
theorem load_err {w : World} {g : Nat} {x : Int} (hg : Bl w g #[.int .i64 x] 43) : (loadVar 43 ⟨g, 0, none⟩).run Tryd.prog w = .ok (.int .i64 x) w := by
  have c := hg.cell (i := 0) rfl
  simp [loadVar, isAgg, underlying, Tryd.underlying43, c, Result.andThen]
theorem wr_new {w : World} {o o2 : Obj} {p : Nat} (hp : w.heap.size + 2 = p) : WR (((w.alloc o).alloc o2).alloc (.cells #[.slice none 0 0] 65)) p none [] := by
  subst hp
  refine ⟨none, 0, 0, [], ⟨by simp, .inl ⟨by simp, rfl⟩⟩, rfl, ?_, World.ownsRow_nil _ _ _ 1, rfl⟩
  have := Bl.new ((w.alloc o).alloc o2) #[.slice none 0 0] 65
  rwa [size_alloc, size_alloc] at this
set_option maxRecDepth 100000 in
set_option maxHeartbeats 1000000 in
theorem write_any {w : World} {B : Nat} (hT : Ty w) (hB : B ≤ w.heap.size) (x : Int) (ts : List (List Int)) (fs : List (Int × Int × Int × List (Int × Int))) (ta fa : Option Addr) (nt tc nf fc : Nat) (hnt : ts.length = nt) (hnf : fs.length = nf) (hts : TxIn w B ta ts) (hfs : FnIn w B fa fs) (hM : ∀ f ∈ fs, MI f.2.2.2) :
    Calls Tryd.prog 10 #[.agg #[.int .i64 x, .slice ta nt tc, .slice fa nf fc]] w fun e w' => ∃ ra K cap, e = .returned (.tuple #[.slice ra K cap, .int .i64 (wrE (x, ts, fs))]) ∧ Out 0 0 w w' ∧ w'.ownsRow w.heap.size 5 1 (.slice ra K cap) K (bvs (wrB (x, ts, fs))) ∧ (wrB (x, ts, fs)).length = K := by
  have hmf : ∀ (fn : Fn) (first cap : Array Value) (w : World), (Instr.makeFunc fn first cap).run Tryd.prog w = .ok (.func fn first cap) w := fun _ _ _ _ => rfl
  obtain ⟨g, hg⟩ : ∃ g, w.heap.size = g := ⟨_, rfl⟩
  obtain ⟨V, hV⟩ : ∃ V, ((w.alloc (.cells #[.int .i64 x, .slice ta nt tc, .slice fa nf fc] 35)).alloc (.cells #[.int .i64 0] 43)).alloc (.cells #[.slice none 0 0] 65) = V := ⟨_, rfl⟩
  have HW := hid_mk (wr_new (w := w) (o := .cells #[.int .i64 x, .slice ta nt tc, .slice fa nf fc] 35) (o2 := .cells #[.int .i64 0] 43) (p := g + 1 + 1) (by omega))
  have HO := hid_mk ((((Out.refl 0 0 w).alloc (.cells #[.int .i64 x, .slice ta nt tc, .slice fa nf fc] 35)).alloc (.cells #[.int .i64 0] 43)).alloc (.cells #[.slice none 0 0] 65))
  have b0 := ((Bl.new w #[.int .i64 x, .slice ta nt tc, .slice fa nf fc] 35).alloc (.cells #[.int .i64 0] 43)).alloc (.cells #[.slice none 0 0] 65)
  have b1 := (Bl.new (w.alloc (.cells #[.int .i64 x, .slice ta nt tc, .slice fa nf fc] 35)) #[.int .i64 0] 43).alloc (.cells #[.slice none 0 0] 65)
  rw [size_alloc] at b1
  rw [hV, hg] at b0 b1
  rw [hV] at HW HO
  have HB1 := hid_mk b1
  have k0 := b0.cell (i := 0) rfl
  have k1 := b0.cell (i := 1) rfl
  have k2 := b0.cell (i := 2) rfl
  have HG := hid_mk hg
  have HBB := hid_mk hB
  have HTy := hid_mk hT
  have HP := hid_mk (program_any HW.out (B := B) (by omega) x ts fs ta fa nt tc nf fc hnt hnf (hts.kept (Lo.of_out HO.out) (Nat.le_refl _)) (hfs.kept (Lo.of_out HO.out) (Nat.le_refl _)) hM)
  have hgl : Hid (0 < g) := hid_mk (hg ▸ hT.lt)
  have HV : Hid (∀ V2 o', St (g + 1 + 1) none V o' V2 → Out 0 0 w V2 ∧ Bl V2 (g + 1) #[.int .i64 0] 43) := hid_mk fun V2 o' hS => by
    refine ⟨HO.out.past (lo := g + 1 + 1) (hi := V.heap.size) ⟨hS.1.1, hS.1.2.1, hS.1.2.2.1, hS.size, fun k h1 h2 => hS.1.2.2.2.2 k h1 ?_⟩ (by have := HG.out; omega), hS.bl HB1.out (by omega) (by simp)⟩
    rintro (q | q)
    · omega
    · cases q
  clear hT hB hts hfs hM hnt hnf b0 b1
  go_enter_defers Tryd.func10, Tryd.ntmps10
  go_wp2_with fail
  (try rw [hV])
  (try rw [hg])
  clear hV hg k0 k1 k2
  refine HP.out.mono ?_
  rintro e V2 ⟨o', hS, ⟨rfl, hok, hW⟩ | ⟨rfl, hno⟩⟩
  · obtain ⟨hOut, hE⟩ := HV.out V2 o' hS
    obtain ⟨a, K, cap, bs, hcut, hlen, hBl, hown, ho⟩ := hW
    have c0 := hBl.cell (i := 0) rfl
    have e0 := hE.cell (i := 0) rfl
    have z0 := hE.frozen 0
    have HOut := hid_mk hOut
    have HE := hid_mk hE
    have Hown := hid_mk hown
    have HOK := hid_mk hok
    have HL := hid_mk hlen
    have HC := hid_mk hcut
    clear hOut hE hown hok hlen hcut hBl hS ho
    by_cases hK : K ≤ 65536
    · have hd : decide ((K : Int) ≤ 65536) = true := by simp; omega
      have HF : Hid ((encP (x, ts, fs)).length ≤ 65536 ∧ bs = encP (x, ts, fs)) := hid_mk (by
        have := HL.out
        rcases HC.out.2 with q | q
        · exact q
        · omega)
      clear hK
      go_wp2_with (go_at_call 26; refine calls_same (want_yes _ _ _) ?_)
      refine leaves_cons (f := 23) (args := #[.pointer (some ⟨g + 1, 0, none⟩)]) (by simp) (by simp [go_sem]) ?_
      obtain ⟨hE2, ho2⟩ := setE HE.out 0
      refine (catchW_idle hE2).mono ?_
      rintro e u' w9 ⟨rfl, rfl, f9, q9⟩
      have hw := wr_ok HOK.out HF.out.1
      have hO9 : Out (g + 1) (g + 1 + 1) V2 w9 := ho2.trans q9
      refine leaves_ret (results_tc (v := .slice a K cap) Tryd.results10 rfl rfl (load_err f9)) ⟨a, K, cap, by rw [hw.1], HOut.out.past hO9 (by have := HG.out; omega), ?_, ?_⟩
      · rw [hw.2, ← HF.out.2]
        have := own_fx (S := fun k => k = g + 1) Hown.out ⟨hO9.1, hO9.2.1, hO9.2.2.1, hO9.size, fun k h1 h2 => hO9.block h1 (by omega)⟩ (fun q hq he => by have := (own_ge Hown.out hq).1; omega)
        exact Go.Joins.ownsRow_le this (by have := HG.out; omega)
      · rw [hw.2, ← HF.out.2]; exact HL.out
    · have hd : decide ((K : Int) ≤ 65536) = false := by simp; omega
      have HF : Hid (65536 < (encP (x, ts, fs)).length) := hid_mk (by
        have := HL.out
        rcases HC.out.2 with ⟨q, rfl⟩ | q
        · omega
        · exact q.1)
      clear hK
      go_wp2_with (go_at_call 26; refine calls_stop (want_no _ _ _) ?_)
      (try simp)
      refine leaves_cons (f := 23) (args := #[.pointer (some ⟨g + 1, 0, none⟩)]) (by simp) (by simp [go_sem]) ?_
      refine (catchW_stop (HTy.out.out HOut.out (.inr rfl)) HE.out).mono ?_
      rintro e u' w9 ⟨rfl, rfl, f9, q9⟩
      have hw := wr_long HOK.out HF.out
      refine leaves_ret (results_tc (v := .slice none 0 0) Tryd.results10 rfl rfl (load_err f9)) ⟨none, 0, 0, by rw [hw.1], HOut.out.past q9 (by have := HG.out; omega), ?_, ?_⟩
      · rw [hw.2]; exact World.ownsRow_nil _ _ _ 1
      · rw [hw.2]; rfl
  · obtain ⟨hOut, hE⟩ := HV.out V2 o' hS
    (try simp)
    refine leaves_cons (f := 23) (args := #[.pointer (some ⟨g + 1, 0, none⟩)]) (by simp) (by simp [go_sem]) ?_
    refine (catchW_stop (HTy.out.out hOut (.inr rfl)) hE).mono ?_
    rintro e u' w9 ⟨rfl, rfl, f9, q9⟩
    have hw := wr_form hno
    refine leaves_ret (results_tc (v := .slice none 0 0) Tryd.results10 rfl rfl (load_err f9)) ⟨none, 0, 0, by rw [hw.1], hOut.past q9 (by have := HG.out; omega), ?_, ?_⟩
    · rw [hw.2]; exact World.ownsRow_nil _ _ _ 1
    · rw [hw.2]; rfl
end Go.Proofs.YtapjfokkcgdhhaaDoor
