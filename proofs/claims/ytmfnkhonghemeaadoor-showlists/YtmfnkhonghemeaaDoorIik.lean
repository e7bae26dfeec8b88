/- package show: the walk goes over all that is shown -/
import Derived.Test.YtmfnkhonghemeaaDoorIij
namespace Go.Proofs.YtmfnkhonghemeaaDoor
open Go.RowKit
attribute [local go_sem] Oper.semAt_some
set_option linter.unusedVariables false
set_option linter.unusedSimpArgs false

theorem wpIn_nm {F : Fence} {n : Nat} {P : Program} {c : Code} {Q : Exit → Act → World → Prop} {a : Act} {w : World} (h : ∀ W1, W1 = w → c.wpIn F n P Q a W1) : c.wpIn F n P Q a w := h w rfl
theorem ov_no {D0 D : Nat → Prop} {q : Nat} (hD : ∀ b, D b → D0 b ∨ q + 4 ≤ b) (hQ : ∀ b, D0 b → b < q) {b : Nat} (h1 : q ≤ b) (h2 : b < q + 4) : ¬ D b := fun h => by
  rcases hD b h with h | h
  · have := hQ b h; omega
  · omega
theorem Vals.fx {S : Nat → Prop} {w w' : World} {g : Nat} {vs : List (Int × Int)} (h : Vals w g vs) (f : Fx S w w') (hn : ¬ S g) : Vals w' g vs := fun i k x hi => ⟨f.cell (h i k x hi).1 hn, f.cell (h i k x hi).2 hn⟩
theorem drop_rev {α : Type} {l : List α} {j : Nat} {x : α} (h : l[j]? = some x) : (l.drop (j + 1)).reverse ++ [x] = (l.drop j).reverse := by
  have hl : j < l.length := (List.getElem?_eq_some_iff.1 h).1
  have e : l[j] = x := (List.getElem?_eq_some_iff.1 h).2
  rw [List.drop_eq_getElem_cons hl, List.reverse_cons, e]
theorem Stk.ne {w : World} {B g cap b : Nat} {l : List (Int × Int)} {cs : Array Value} {T : TypeId} (h : Stk w B g cap l) (hb : Bl w b cs T) (hT : T ≠ 28) : g ≠ b := by
  rintro rfl
  obtain ⟨cur, _, h2, _⟩ := h.row
  have := h2.symm.trans hb
  simp at this
  exact hT this.2.symm
theorem Stk.ne_obj {w : World} {B g cap b : Nat} {l : List (Int × Int)} {o : Obj} (h : Stk w B g cap l) (hb : w.heap[b]? = some o) (ho : ∀ cur T z, o ≠ .cells cur T z) : g ≠ b := by
  rintro rfl
  obtain ⟨cur, _, h2, _⟩ := h.row
  have := h2.symm.trans hb
  simp only [Option.some.injEq] at this
  exact ho _ _ _ this.symm
/-- an append whose run is known, in a fence -/
theorem wpListIn_app {F : Fence} {n : Nat} {P : Program} {w w' : World} {ops : Array Oper} {rest : List Oper} {o : Oper} {a : Act} {Q : Exit → Act → World → Prop} {sv xv v : Value}
    (hg : o.guard = none) (s x : Operand) (t : TypeId) (hop : o.op = Op.call { callee := Callee.builtin Builtin.append, args := #[s, x], argTypes := #[t, t] }) (hs : a.eval s = sv) (hx : a.eval x = xv) (hrun : (Builtin.append_ #[t, t] o.type #[sv, xv]).run P w = .ok v w')
    (hK : wpListIn F n P ops Q rest (a.put o.dst v) w') : wpListIn F n P ops Q (o :: rest) a w := by
  refine wpListIn_plain hg fun K hK' => ?_
  unfold Oper.wpIn
  refine ⟨?_, ?_⟩
  · simp [Oper.about, hop, resolve, Target.leads, Sem.run_pure]
  · rw [Oper.semAt_plain F _ _ (by rw [hop]; intro c hc'; cases hc')]
    simp [execOp, hop, resolve, invoke, builtin, hs, hx, hrun, Result.andThen]
    exact hK' _ _ hK
/-- the act of over at its loop's head -/
def OvA (p q : Nat) (Ds : List Nat) (a : Act) : Prop := ∃ v1 v2 v6 v7 v8 v9 v10 v11 v12 v13 v14 v15 v16 v17 v18 v19 v20 v21 v22 v23 v24 v25 v26 v27 v28 v29 v30 v31 v32 v33 v34 v35 v36 v37 v38 v39 v40 v41 v42 v43 v44 v45 v46 v47 : Value,
  a = { tmps := #[.pointer (some ⟨p, 0, none⟩), v1, v2, .pointer (some ⟨q, 0, none⟩), .pointer (some ⟨q + 1, 0, none⟩), .pointer (some ⟨q + 1 + 1 + 1, 0, none⟩), v6, v7, v8, v9, v10, v11, v12, v13, v14, v15, v16, v17, v18, v19, v20, v21, v22, v23, v24, v25, v26, v27, v28, v29, v30, v31, v32, v33, v34, v35, v36, v37, v38, v39, v40, v41, v42, v43, v44, v45, v46, v47], defers := marks Ds }
/-- the world of over at its loop's head -/
def OvW (W : World) (D0 D : Nat → Prop) (q : Nat) (Ds : List Nat) (st : List (Int × Int)) (w : World) : Prop := ∃ g cap, Bl w (q + 1 + 1 + 1) #[.slice (some ⟨g, 0, none⟩) st.length cap] 24 ∧ Stk w (q + 2) g cap st ∧ Bl w (q + 1) #[.int .i64 0, .int .i64 0] 38 ∧
  (∀ b, D b → D0 b ∨ q + 4 ≤ b) ∧ ¬ D g ∧ (∀ d ∈ Ds, w.heap[d]? = some (.deferred (some [])) ∧ ¬ D d ∧ q + 4 ≤ d) ∧ Ds.Nodup ∧ Fx D0 W w
def OvI (W : World) (p q : Nat) (D0 : Nat → Prop) (I : (Nat → Prop) → Nat → List (Int × Int) → World → Prop) (r : Nat) (a : Act) (w : World) : Prop :=
  ∃ Ds D st, OvA p q Ds a ∧ I D r st w ∧ OvW W D0 D q Ds st w
theorem over_leave {tmps : Array Value} {R : Ending → World → Prop} {q : Nat} {Ds : List Nat} {w : World} (ht : tmps.getD 4 undef = .pointer (some ⟨q, 0, none⟩)) (hF : Bl w q #[.int .i64 0, .int .i64 0] 38) (hd : ∀ d ∈ Ds, w.heap[d]? = some (.deferred (some []))) (hn : Ds.Nodup)
    (hR : ∀ w', Fx (fun b => b ∈ Ds) w w' → R (.returned (.agg #[.int .i64 0, .int .i64 0])) w') : LeavesInM Fence.wide 0 Tryd.prog Tryd.f12 tmps R (marks Ds) .returning w := by
  refine leaves_marks (by simp) Ds w hd hn (fun w' hf => ?_)
  have kF := hF.fx hf (fun h => by
    have := hd _ h
    rw [show w.heap[q]? = _ from hF] at this
    simp at this)
  exact ⟨_, results_cell_row Tryd.results12 _ _ q 38 _ (0, 0) _ ht kF Tryd.underlying38 rfl (infoF 0 0), hR _ hf⟩
/-- the world of over in its inner loop -/
def OvR (W5 w : World) (q g5 : Nat) (l : List (Int × Int)) : Prop := ∃ g cap, Bl w (q + 1 + 1 + 1) #[.slice (some ⟨g, 0, none⟩) l.length cap] 24 ∧ Stk w (q + 2) g cap l ∧ (g = g5 ∨ W5.heap.size ≤ g) ∧ Fx (fun b => b = q + 3 ∨ b = g5) W5 w
set_option maxRecDepth 100000 in
set_option maxHeartbeats 4000000 in
theorem over_any {W : World} {p r0 : Nat} {k0 x0 : Int} {D0 : Nat → Prop} (I : (Nat → Prop) → Nat → List (Int × Int) → World → Prop) (J : (Nat → Prop) → World → Prop)
    (hfx : ∀ D r st w w', I D r st w → Fx (fun b => ¬ D b) w w' → I D r st w') (hjx : ∀ D w w', J D w → Fx (fun b => ¬ D b) w w' → J D w')
    (hdom : ∀ D r st w, I D r st w → (∀ b, D b → b < w.heap.size) ∧ st.length ≤ 900)
    (hm : ∀ D r st k x w, I D r (st ++ [(k, x)]) w → Calls Tryd.prog 16 #[.pointer (some ⟨p, 0, none⟩), .agg #[.int .i64 k, .int .i64 x]] w fun e w' =>
      ∃ (a : Option Addr) (m c : Nat) (held : List (Int × Int)) (D' : Nat → Prop), e = .returned (.tuple #[.slice a m c, .agg #[.int .i64 0, .int .i64 0]]) ∧ held.length = m ∧ m ≤ 1000 ∧ (∀ b, D' b → D b ∨ w.heap.size ≤ b) ∧ Fx D w w' ∧
        ∃ hv mv tv n b, WK w' p hv mv tv n ∧ decide (500 < n) = b ∧ (b = true → J D' w') ∧ (b = false → (∃ r', r' < r ∧ I D' r' (st ++ held.reverse) w') ∧ (0 < m → ∃ gv, a = some ⟨gv, 0, none⟩ ∧ D' gv ∧ Vals w' gv held)))
    (h0 : I D0 r0 [(k0, x0)] W) :
    Calls Tryd.prog 12 #[.pointer (some ⟨p, 0, none⟩), .agg #[.int .i64 k0, .int .i64 x0]] W fun e w' => e = .returned (.agg #[.int .i64 0, .int .i64 0]) ∧ ∃ D, (∀ b, D b → D0 b ∨ W.heap.size ≤ b) ∧ Fx D0 W w' ∧ ((∃ r, I D r [] w') ∨ J D w') := by
  have HFX := hid_mk hfx
  have HJX := hid_mk hjx
  have HDOM := hid_mk hdom
  have HM := hid_mk hm
  have HI := hid_mk h0
  have HQ : Hid (∀ b, D0 b → b < W.heap.size) := (hdom _ _ _ _ h0).1
  clear hfx hjx hdom hm h0
  refine (callsIn_wide (n := 0)).1 ?_
  refine callsIn_of_wp_marks Tryd.func12 rfl trivial ?_ rfl
  simp only [Tryd.ntmps12, List.size_toArray, List.length_cons, List.length_nil, Nat.reduceAdd, Nat.reduceSub, Array.replicate_succ, Array.replicate_zero, List.push_toArray, List.append_toArray, List.nil_append, List.cons_append]
  gi_wp2_with fail
  refine wpIn_loop_ix (OvI W p W.heap.size D0 I) r0 ?start ?round
  case start =>
    refine ⟨[], D0, [(k0, x0)], ⟨_, _, _, _, _, _, _, _, _, _, _, _, _, _, _, _, _, _, _, _, _, _, _, _, _, _, _, _, _, _, _, _, _, _, _, _, _, _, _, _, _, _, _, _, rfl⟩, ?_⟩
    have o1 : Out 0 0 W ((((W.alloc (.cells #[.int .i64 k0, .int .i64 x0] 28)).alloc (.cells #[.int .i64 0, .int .i64 0] 38)).alloc (.cells #[.int .i64 k0, .int .i64 x0] 28)).alloc (.cells #[.slice (some ⟨W.heap.size + 1 + 1, 0, none⟩) 1 1] 24)) := ((((Out.refl _ _ _).alloc _).alloc _).alloc _).alloc _
    have x1 : Fx (fun _ => False) W ((((W.alloc (.cells #[.int .i64 k0, .int .i64 x0] 28)).alloc (.cells #[.int .i64 0, .int .i64 0] 38)).alloc (.cells #[.int .i64 k0, .int .i64 x0] 28)).alloc (.cells #[.slice (some ⟨W.heap.size + 1 + 1, 0, none⟩) 1 1] 24)) := Fx.of_out o1 (fun b h1 h2 _ => by omega)
    have kS := Bl.new (((W.alloc (.cells #[.int .i64 k0, .int .i64 x0] 28)).alloc (.cells #[.int .i64 0, .int .i64 0] 38)).alloc (.cells #[.int .i64 k0, .int .i64 x0] 28)) #[.slice (some ⟨W.heap.size + 1 + 1, 0, none⟩) 1 1] 24
    have kV := (Bl.new ((W.alloc (.cells #[.int .i64 k0, .int .i64 x0] 28)).alloc (.cells #[.int .i64 0, .int .i64 0] 38)) #[.int .i64 k0, .int .i64 x0] 28).alloc (.cells #[.slice (some ⟨W.heap.size + 1 + 1, 0, none⟩) 1 1] 24)
    have kF := ((Bl.new (W.alloc (.cells #[.int .i64 k0, .int .i64 x0] 28)) #[.int .i64 0, .int .i64 0] 38).alloc (.cells #[.int .i64 k0, .int .i64 x0] 28)).alloc (.cells #[.slice (some ⟨W.heap.size + 1 + 1, 0, none⟩) 1 1] 24)
    simp only [size_alloc] at kS kV kF
    refine ⟨HFX.out _ _ _ _ _ HI.out (x1.wide (fun _ _ h => h.elim)), W.heap.size + 1 + 1, 1, kS, Stk.mk (Nat.le_refl _) kV (Nat.le_refl _) (by decide) rfl rfl, kF, fun b h => .inl h, fun h => by have := HQ.out _ h; omega, fun d hd => by simp at hd, List.nodup_nil, x1.wide (fun _ _ h => h.elim)⟩
  case round =>
    rintro r a w ⟨Ds, D, st, ⟨v1, v2, v6, v7, v8, v9, v10, v11, v12, v13, v14, v15, v16, v17, v18, v19, v20, v21, v22, v23, v24, v25, v26, v27, v28, v29, v30, v31, v32, v33, v34, v35, v36, v37, v38, v39, v40, v41, v42, v43, v44, v45, v46, v47, rfl⟩, hI, g, cap, kS, hS, kF, hD, hDg, hDs, hnd, hfx⟩
    rcases List.eq_nil_or_concat st with rfl | ⟨st, ⟨k, x⟩, rfl⟩
    · have s0 := kS.cell (i := 0) rfl
      have f0 := kF.cell (i := 0) rfl
      have f1 := kF.cell (i := 1) rfl
      have f2 := kF.frozen 0
      have f3 := kF.frozen 1
      have HE := hid_mk (And.intro kF (And.intro hI (And.intro hD (And.intro hDs (And.intro hnd hfx)))))
      clear kF kS hS hI hD hDs hnd hfx hDg
      gi_wp2
      obtain ⟨kF, hI, hD, hDs, hnd, hfx⟩ := HE.out
      have o8 : Out (W.heap.size + 1) (W.heap.size + 2) w ((w.setCell ⟨W.heap.size + 1, 0, none⟩ (.int .i64 0)).setCell ⟨W.heap.size + 1, 1, none⟩ (.int .i64 0)) := ((Out.refl _ _ _).setCell (p := ⟨W.heap.size + 1, 0, none⟩) (.inl ⟨Nat.le_refl _, Nat.lt_succ_self _⟩) _).setCell (p := ⟨W.heap.size + 1, 1, none⟩) (.inl ⟨Nat.le_refl _, Nat.lt_succ_self _⟩) _
      refine over_leave rfl ((kF.set 0 _).set 1 _) (fun d hd => o8.heap (hDs d hd).1 (by have := (hDs d hd).2.2; omega)) hnd (fun w' hf => ?_)
      have x8 : Fx (fun b => ¬ D b ∧ W.heap.size ≤ b) w w' := (Fx.of_out o8 (fun b h1 h2 _ => ⟨ov_no hD HQ.out (by omega) (by omega), by omega⟩)).trans (hf.wide (fun b _ h => ⟨(hDs b h).2.1, by have := (hDs b h).2.2; omega⟩))
      refine ⟨rfl, D, fun b h => (hD b h).imp id (fun h => by omega), hfx.past x8 (fun b h1 h2 => by omega), .inl ⟨r, HFX.out _ _ _ _ _ hI (x8.wide (fun b _ h => h.1))⟩⟩
    · rw [List.concat_eq_append] at *
      obtain ⟨m, hmd⟩ : ∃ m, st.length = m := ⟨_, rfl⟩
      have hml : (st ++ [(k, x)]).length = m + 1 := by simp [hmd]
      obtain ⟨hlt, hst⟩ := HDOM.out _ _ _ _ hI
      rw [hml] at hst kS
      have m0 : (0 : Int) ≤ (m : Int) := by omega
      have m1 : (m : Int) ≤ 900 := by omega
      have hv := hS.vals m k x (by simp [← hmd])
      have hrm := hS.room
      rw [hml] at hrm
      have s0 := kS.cell (i := 0) rfl
      obtain ⟨c0, c1⟩ := hv
      have HE := hid_mk (And.intro kS (And.intro hS (And.intro kF (And.intro hI (And.intro hD (And.intro hDs (And.intro hnd (And.intro hfx (And.intro hDg (And.intro hlt hmd))))))))))
      clear kF kS hS hI hD hDs hnd hfx hDg hlt hml hmd hst
      gi_wp2_with fail
      refine ⟨trivial, rfl, ?_⟩
      refine (callsIn_wide.2 (HM.out _ _ _ _ _ _ HE.out.2.2.2.1)).mono ?_
      rintro e w2 ⟨a', m', c', held, D', rfl, hhl, hm1000, hD', hfx2, hv, mv, tv, n2, tl, hWK, hd, hJ, hNx⟩
      have HWK : Hid (WK (w2.alloc (.cells #[.int .i64 0, .int .i64 0] 38)) p hv mv tv n2) := Bl.alloc hWK _
      have kN := Bl.new w2 #[.int .i64 0, .int .i64 0] 38
      have n0 := kN.cell (i := 0) rfl
      have n1 := kN.cell (i := 1) rfl
      obtain ⟨kS, hS, kF, hI, hD, hDs, hnd, hfx, hDg, hlt, hmd⟩ := HE.out
      have hQ := HQ.out
      have nq : ∀ b, W.heap.size ≤ b → b < W.heap.size + 4 → ¬ D b := fun b h1 h2 h => by
        rcases hD b h with h | h
        · have := hQ b h; omega
        · omega
      have kSw := kS.fx hfx2 (nq _ (by omega) (by omega))
      have kS2 := kSw.alloc (.cells #[.int .i64 0, .int .i64 0] 38)
      have kFw := kF.fx hfx2 (nq _ (by omega) (by omega))
      have kF2 := kFw.alloc (.cells #[.int .i64 0, .int .i64 0] 38)
      have hS2 := hS.fx hfx2 hDg
      have hgq := hS2.ne kSw (by decide)
      have hDs2 : ∀ d ∈ Ds, w2.heap[d]? = some (.deferred (some [])) ∧ ¬ D' d ∧ W.heap.size + 4 ≤ d := fun d hd => by
        obtain ⟨h1, h2, h3⟩ := hDs d hd
        refine ⟨hfx2.heap h1 h2, fun h => ?_, h3⟩
        rcases hD' d h with h | h
        · exact h2 h
        · have := heap_lt h1; omega
      have hDg' : ¬ D' g := fun h => by
        rcases hD' g h with h | h
        · exact hDg h
        · have := hS.lt; omega
      have hDD : ∀ b, D' b → D0 b ∨ W.heap.size + 4 ≤ b := fun b h => by
        rcases hD' b h with h | h
        · exact hD b h
        · have := kS.lt; exact .inr (by omega)
      have hfx02 : Fx D0 W w2 := hfx.past hfx2 (fun b h1 h2 => by
        rcases hD b h2 with h | h
        · exact h
        · omega)
      have hs2 : W.heap.size + 4 ≤ w2.heap.size := by have := kS.lt; have := hfx2.size; omega
      clear nq
      cases tl with
      | true =>
        have f0 := kF2.cell (i := 0) rfl
        have f1 := kF2.cell (i := 1) rfl
        have f2 := kF2.frozen 0
        have f3 := kF2.frozen 1
        have HB := hid_mk (And.intro kF2 (And.intro (hJ rfl) (And.intro hDs2 (And.intro hnd (And.intro hDD (And.intro hfx02 hs2))))))
        clear hhl hm1000 hD' hfx2 hJ hNx hWK s0 c0 c1 kN kS hS kF hI hD hDs hnd hfx hDg hlt hmd kS2 kF2 hS2 hDs2 hDg' hDD hfx02 hQ hs2 hgq kSw kFw
        gi_wp2_with (refine ⟨trivial, rfl, ?_⟩; gi_at_call 13; refine (callsIn_wide.2 (tooLarge_at HWK.out hd)).mono ?_; rintro e w3 ⟨rfl, rfl⟩)
        obtain ⟨kF2, hJ, hDs2, hnd, hDD, hfx02, hs2⟩ := HB.out
        have o8 : Out (W.heap.size + 1) (W.heap.size + 2) w2 (((w2.alloc (.cells #[.int .i64 0, .int .i64 0] 38)).setCell ⟨W.heap.size + 1, 0, none⟩ (.int .i64 0)).setCell ⟨W.heap.size + 1, 1, none⟩ (.int .i64 0)) := (((Out.refl _ _ _).alloc _).setCell (p := ⟨W.heap.size + 1, 0, none⟩) (.inl ⟨Nat.le_refl _, Nat.lt_succ_self _⟩) _).setCell (p := ⟨W.heap.size + 1, 1, none⟩) (.inl ⟨Nat.le_refl _, Nat.lt_succ_self _⟩) _
        refine over_leave rfl ((kF2.set 0 _).set 1 _) (fun d hd => o8.heap (hDs2 d hd).1 (by have := (hDs2 d hd).2.2; omega)) hnd (fun w' hf => ?_)
        have x8 : Fx (fun b => ¬ D' b ∧ W.heap.size ≤ b) w2 w' := (Fx.of_out o8 (fun b h1 h2 _ => ⟨ov_no hDD HQ.out (by omega) (by omega), by omega⟩)).trans (hf.wide (fun b _ h => ⟨(hDs2 b h).2.1, by have := (hDs2 b h).2.2; omega⟩))
        exact ⟨rfl, D', fun b h => (hDD b h).imp id (fun h => by omega), hfx02.past x8 (fun b h1 h2 => by have := h2.2; omega), .inr (HJX.out _ _ _ hJ (x8.wide (fun b _ h => h.1)))⟩
      | false =>
        obtain ⟨⟨r', hr, hI'⟩, hval⟩ := hNx rfl
        have s0' := kS2.cell (i := 0) rfl
        have s1' := kS2.frozen 0
        have HB := hid_mk (And.intro kS2 (And.intro kF2 (And.intro hS2 (And.intro hDs2 (And.intro hDg' (And.intro hI' (And.intro hval (And.intro hnd (And.intro hDD (And.intro hfx02 (And.intro hhl (And.intro hm1000 (And.intro hmd (And.intro hr (And.intro hs2 (And.intro hgq kFw))))))))))))))))
        clear hhl hm1000 hD' hfx2 hJ hNx hWK s0 c0 c1 kN kS hS kF hI hD hDs hnd hfx hDg hlt hmd kS2 kF2 hS2 hDs2 hDg' hDD hfx02 hQ hI' hval hr hs2 hgq kSw kFw
        gi_wp2_with (first
          | (refine ⟨trivial, rfl, ?_⟩; gi_at_call 13; refine (callsIn_wide.2 (tooLarge_at HWK.out hd)).mono ?_; rintro e w3 ⟨rfl, rfl⟩)
          | (refine ⟨trivial, rfl, ?_⟩; gi_at_call 17; refine (callsIn_wide.2 (back_all _ _ _ _)).mono ?_; rintro e w4 ⟨rfl, rfl⟩))
        refine wpIn_nm (fun W5 hW5 => ?_)
        obtain ⟨kS2, kF2, hS2, hDs2, hDg', hI', hval, hnd, hDD, hfx02, hhl, hm1000, hmd, hr, hs2, hgq, kFw⟩ := HB.out
        have x5 : Fx (fun b => b = W.heap.size + 1 + 1 + 1) w2 W5 := by rw [hW5]; exact Fx.of_out (lo := W.heap.size + 1 + 1 + 1) (hi := W.heap.size + 1 + 1 + 1 + 1) ((((Out.refl _ _ _).alloc _).setCell (p := ⟨W.heap.size + 1 + 1 + 1, 0, none⟩) (.inl ⟨Nat.le_refl _, Nat.lt_succ_self _⟩) _).alloc _) (fun b h1 h2 _ => by omega)
        have kS5 : Bl W5 (W.heap.size + 1 + 1 + 1) #[.slice (some ⟨g, 0, none⟩) m cap] 24 := by rw [hW5]; exact (kS2.set 0 _).alloc _
        have kB5 : Bl W5 (w2.heap.size + 1) #[.slice a' m' c'] 24 := by rw [hW5]; have := Bl.new ((w2.alloc (.cells #[.int .i64 0, .int .i64 0] 38)).setCell ⟨W.heap.size + 1 + 1 + 1, 0, none⟩ (.slice (some ⟨g, 0, none⟩) m cap)) #[.slice a' m' c'] 24; simpa only [size_alloc, size_set] using this
        have hs5 : W5.heap.size = w2.heap.size + 2 := by rw [hW5]; simp only [size_alloc, size_set]
        have hS5 : Stk W5 (W.heap.size + 2) g cap st := hS2.cut.fx x5 hgq
        have HQ5 : Hid (W.heap.size + 4 ≤ W5.heap.size) := by show _ ≤ _; omega
        have HL1 : Hid ((st ++ held.reverse).length ≤ 900) := (HDOM.out _ _ _ _ hI').2
        have HB5 := hid_mk (And.intro x5 (And.intro kS5 (And.intro kB5 (And.intro hs5 hS5))))
        clear hW5 x5 kS5 kB5 hs5 hS5 kS2 kF2 hS2 hDs2 hDg' hI' hval hnd hDD hfx02 hhl hm1000 hmd hr hs2 hgq kFw s0' s1' HWK n0 n1
        refine range_any (gf := 27) (lb := #[.pointer (some ⟨w2.heap.size + 1, 0, none⟩)]) rfl (enters_of Tryd.func27 (by kernel_rfl) rfl) (fun W6 => OvR W5 W6 W.heap.size g (st ++ held.reverse) ∧ ∃ lo, W6.heap[W5.heap.size + 1]? = some (.loop lo)) (fun _ _ => False) ?H ?done (fun _ _ _ h _ _ => h.elim)
        case H =>
          intro rec hrec W6 hW6
          obtain ⟨x5, kS5, kB5, hs5, hS5⟩ := HB5.out
          obtain ⟨kS2, kF2, hS2, hDs2, hDg', hI', hval, hnd, hDD, hfx02, hhl, hm1000, hmd, hr, hs2, hgq, kFw⟩ := HB.out
          have o6 : Out 0 0 W5 W6 := by rw [hW6]; exact ((Out.refl _ _ _).alloc _).alloc _
          have d6 : W6.heap[W5.heap.size]? = some (.deferred (some [])) := by rw [hW6, heap_alloc_old _ _ (by rw [size_alloc]; omega)]; exact heap_alloc_new _ _
          have l6 : W6.heap[W5.heap.size + 1]? = some (.loop (rec .ready none)) := by rw [hW6, ← size_alloc W5 (.deferred (some []))]; exact heap_alloc_new _ _
          have kB6 := kB5.kept o6 (.inr (Nat.zero_le _))
          have x6 : Fx (fun b => b = W.heap.size + 3 ∨ b = g) W5 W6 := Fx.of_out o6 (fun b h1 h2 _ => by omega)
          refine (back1_all (l := W5.heap.size + 1) (g := w2.heap.size + 1) (c := c') (a := a') (vs := held) hhl hm1000 (fun j w => OvR W5 w W.heap.size g (st ++ (held.drop j).reverse) ∧ w.heap[W5.heap.size]? = some (.deferred (some [])) ∧ w.heap[W5.heap.size + 1]? = some (.loop (rec .ready none))) ?hm ?hy ?h0).mono ?_
          case hm =>
            rintro j w7 ⟨⟨g7, c7, kS7, hS7, hg7, fx7⟩, d7, l7⟩
            have hgl := hS2.lt
            refine ⟨kB5.fx fx7 (by omega), fun hm => ?_⟩
            obtain ⟨gv, ha, hgv, hv⟩ := hval hm
            have hnq : ¬ (gv = W.heap.size + 3) := fun e => ov_no hDD HQ.out (b := gv) (by omega) (by omega) hgv
            have hng : gv ≠ g := fun e => hDg' (e ▸ hgv)
            exact ⟨gv, ha, (hv.fx x5 (by omega)).fx fx7 (by omega)⟩
          case h0 =>
            rw [List.drop_eq_nil_of_le (by omega), List.reverse_nil, List.append_nil]
            exact ⟨⟨g, cap, by rw [hmd]; exact kS5.kept o6 (.inr (Nat.zero_le _)), hS5.fx (Fx.of_out (S := fun _ => False) o6 (fun b h1 h2 _ => by omega)) id, .inl rfl, x6⟩, d6, l6⟩
          case hy =>
            rintro j w7 k7 x7 ⟨⟨g7, c7, kS7, hS7, hg7, fx7⟩, d7, l7⟩ hkx
            have hlen7 : ∃ L, (st ++ (held.drop (j + 1)).reverse).length = L := ⟨_, rfl⟩
            obtain ⟨L, hL⟩ := hlen7
            rw [hL] at kS7
            have HB7 := hid_mk (And.intro kS7 (And.intro hS7 (And.intro hg7 (And.intro fx7 (And.intro d7 (And.intro l7 (And.intro hkx hL)))))))
            refine round_any hrec l7 rfl ?_
            clear x5 kS5 kB5 hs5 hS5 kS2 kF2 hS2 hDs2 hDg' hI' hval hnd hDD hfx02 hhl hm1000 hmd hr hs2 hgq kFw o6 d6 kB6 x6 hW6 kS7 hS7 hg7 fx7 d7 l7 hkx hL l6
            gi_wp2
            refine ⟨by rw [heap_alloc_old _ _ (heap_lt HB7.out.2.2.2.2.2.1)]; exact HB7.out.2.2.2.2.2.1, ?_⟩
            intro w8 o8 l8
            obtain ⟨kS7, hS7, hg7, fx7, d7, l7, hkx, hL⟩ := HB7.out
            have o78 : Out (W5.heap.size + 1) (W5.heap.size + 1 + 1) w7 w8 := ((Out.refl _ _ _).alloc _).trans o8
            have x78 : Fx (fun b => b = W5.heap.size + 1) w7 w8 := Fx.of_out o78 (fun b h1 h2 _ => by omega)
            have hlt5 := kS7.lt
            have hl7 := heap_lt l7
            have hd7 := heap_lt d7
            have hql : ¬ (W.heap.size + 1 + 1 + 1 = W5.heap.size + 1) := by have := HQ5.out; omega
            have hgl : g7 ≠ W5.heap.size + 1 := hS7.ne_obj l7 (fun _ _ _ h => by simp at h)
            have hgd : g7 ≠ W5.heap.size := hS7.ne_obj d7 (fun _ _ _ h => by simp at h)
            have hgk : g7 ≠ W.heap.size + 1 + 1 + 1 := hS7.ne kS7 (by decide)
            have kS8 := kS7.fx x78 hql
            have hS8 := hS7.fx x78 hgl
            have kX : Bl w8 w7.heap.size #[.int .i64 k7, .int .i64 x7] 28 := (Bl.new w7 _ _).kept o8 (.inr (by omega))
            have y0 := kX.cell (i := 0) rfl
            have y1 := kX.cell (i := 1) rfl
            have s8 := kS8.cell (i := 0) rfl
            have oN : Out 0 0 w8 (w8.alloc (.cells #[.int .i64 k7, .int .i64 x7] 28)) := (Out.refl _ _ _).alloc _
            have xN : Fx (fun _ => False) w8 (w8.alloc (.cells #[.int .i64 k7, .int .i64 x7] 28)) := Fx.of_out oN (fun b h1 h2 _ => by omega)
            have hLl : L ≤ 1000 := by rw [← hL]; have := HL1.out; simp at this ⊢; omega
            obtain ⟨g9, c9, w9, hap, hS9, hg9, fx9⟩ := Stk.push (hS8.fx xN id) (by rw [size_alloc]; have := o8.size; rw [size_alloc] at this; omega) (Bl.new w8 #[.int .i64 k7, .int .i64 x7] 28) (by rw [hL]; exact hLl) (c := 1)
            have kS9 := (kS8.alloc (.cells #[.int .i64 k7, .int .i64 x7] 28)).fx fx9 hgk.symm
            have s9 := kS9.cell (i := 0) rfl
            have z9 := kS9.frozen 0
            rw [hL] at hap
            have HB9 := hid_mk (And.intro kS9 (And.intro hS9 (And.intro hg9 (And.intro fx9 (And.intro x78 (And.intro xN (And.intro hgl (And.intro hgd (And.intro hgk (And.intro hql l8))))))))))
            clear kS7 hS7 hg7 fx7 d7 l7 hkx hL o78 x78 hlt5 hl7 hd7 hql hgl hgd hgk kS8 hS8 kX oN xN kS9 hS9 hg9 fx9 o8 l8 hLl
            gi_wp2_with (gi_at_builtin; refine wpListIn_app rfl _ _ 24 rfl rfl rfl hap ?_)
            obtain ⟨kS9, hS9, hg9, fx9, x78, xN, hgl, hgd, hgk, hql, l8⟩ := HB9.out
            obtain ⟨kS7, hS7, hg7, fx7, d7, l7, hkx, hL⟩ := HB7.out
            have hQ5 := HQ5.out
            have hE : st ++ (held.drop j).reverse = (st ++ (held.drop (j + 1)).reverse) ++ [(k7, x7)] := by rw [List.append_assoc, drop_rev hkx]
            have hEl : (st ++ (held.drop j).reverse).length = L + 1 := by rw [hE, List.length_append, hL]; rfl
            have oS : Out (W.heap.size + 1 + 1 + 1) (W.heap.size + 1 + 1 + 1 + 1) w9 (w9.setCell ⟨W.heap.size + 1 + 1 + 1, 0, none⟩ (.slice (some ⟨g9, 0, none⟩) (L + 1) c9)) := (Out.refl _ _ _).setCell (.inl ⟨Nat.le_refl _, Nat.lt_succ_self _⟩) _
            have l9 := fx9.heap (xN.heap l8 id) hgl.symm
            refine ⟨oS.heap l9 (.inr (by omega)), fun w' o' l' => ⟨rfl, ⟨g9, c9, ?_, ?_, ?_, ?_⟩, ?_, l'⟩⟩
            · rw [hEl]; exact (kS9.set 0 _).kept o' (.inl (by omega))
            · rw [hE]; exact (hS9.fx (Fx.of_out (S := fun b => b = W.heap.size + 1 + 1 + 1) oS (fun b h1 h2 _ => by omega)) (hS9.ne kS9 (by decide))).fx (Fx.of_out (S := fun b => b = W5.heap.size + 1) o' (fun b h1 h2 _ => by omega)) (hS9.ne_obj l9 (fun _ _ _ h => by simp at h))
            · have := x78.size
              have := fx7.size
              have := xN.size
              omega
            · refine fx7.past (S' := fun b => b = W.heap.size + 3 ∨ b = g7 ∨ b = W5.heap.size + 1) ((x78.wide (fun b _ h => .inr (.inr h))).trans ((xN.wide (fun b _ h => h.elim)).trans ((fx9.wide (fun b _ h => .inr (.inl h))).trans ((Fx.of_out oS (fun b h1 h2 _ => .inl (by omega))).trans (Fx.of_out o' (fun b h1 h2 _ => .inr (.inr (by omega)))))))) (fun b h1 h2 => by omega)
            · exact (Out.heap o' (oS.heap (fx9.heap (xN.heap (x78.heap d7 (by omega)) id) hgd.symm) (.inr (by omega))) (.inl (by omega)))
          · rintro e w8 ⟨hv8, hR8, d8, l8⟩
            exact ⟨hv8, d8, .inl ⟨⟨by simpa using hR8, _, l8⟩, l8⟩⟩
        case done =>
          rintro W6 W7 ⟨⟨g6, c6, kS6, hS6, hg6, fx6⟩, lo, l6⟩ o7 d7
          gi_wp2
          obtain ⟨x5, kS5, kB5, hs5, hS5⟩ := HB5.out
          obtain ⟨kS2, kF2, hS2, hDs2, hDg', hI', hval, hnd, hDD, hfx02, hhl, hm1000, hmd, hr, hs2, hgq, kFw⟩ := HB.out
          have hgl := hS2.lt
          have x67 : Fx (fun b => b = W5.heap.size + 1) W6 W7 := Fx.of_out o7 (fun b h1 h2 _ => by omega)
          have x57 : Fx (fun b => b = W.heap.size + 3 ∨ b = g) W5 W7 := fx6.past x67 (fun b h1 h2 => by omega)
          have x27 : Fx (fun b => b = W.heap.size + 3 ∨ b = g) w2 W7 := (x5.wide (fun b _ h => .inl h)).trans x57
          have hdm := (HDOM.out _ _ _ _ hI').1
          have hg6l : g6 ≠ W5.heap.size + 1 := hS6.ne_obj l6 (fun _ _ _ h => by simp at h)
          refine ⟨r', hr, W5.heap.size :: Ds, D', st ++ held.reverse, ⟨_, _, _, _, _, _, _, _, _, _, _, _, _, _, _, _, _, _, _, _, _, _, _, _, _, _, _, _, _, _, _, _, _, _, _, _, _, _, _, _, _, _, _, _, rfl⟩, HFX.out _ _ _ _ _ hI' (x27.wide (fun b _ h => ?_)), g6, c6, kS6.fx x67 (by omega), hS6.fx x67 hg6l, kFw.fx x27 ?_, hDD, ?_, ?_, ?_, hfx02.past x27 (fun b h1 h2 => by omega)⟩
          · rcases h with rfl | rfl
            · exact ov_no hDD HQ.out (by omega) (by omega)
            · exact hDg'
          · have := hS2.ne kFw (by decide)
            omega
          · rcases hg6 with rfl | h
            · exact hDg'
            · intro h2; have := hdm _ h2; omega
          · intro d hd
            rcases List.mem_cons.1 hd with rfl | hd
            · exact ⟨d7, fun h => by have := hdm _ h; omega, by omega⟩
            · obtain ⟨h1, h2, h3⟩ := hDs2 d hd
              have := hS2.ne_obj h1 (fun _ _ _ h => by simp at h)
              exact ⟨x27.heap h1 (by omega), h2, h3⟩
          · refine List.nodup_cons.2 ⟨fun h => ?_, hnd⟩
            have := heap_lt (hDs2 _ h).1
            omega
end Go.Proofs.YtmfnkhonghemeaaDoor
