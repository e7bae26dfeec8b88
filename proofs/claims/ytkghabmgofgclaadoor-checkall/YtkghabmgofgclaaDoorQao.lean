import Derived.Test.YtkghabmgofgclaaDoorQaa
import Derived.Test.YtkghabmgofgclaaDoorQan
namespace Go.Proofs.YtkghabmgofgclaaDoor
open Go.RowKit
set_option linter.unusedVariables false
set_option linter.unusedSimpArgs false

section
variable {P : Program} {ops : Array Oper} {Q : Exit → Act → World → Prop} {md : Region.Mode} {S : World → Prop} {z : Nat}
/-- whatever order is picked: S holds behind every operation but z -/
def wpAnyT (P : Program) (md : Region.Mode) (ops : Array Oper) (Q : Exit → Act → World → Prop) (S : World → Prop) (z : Nat) : Nat → Array Bool → Act → World → Prop
  | 0, listed, a, w => Region.ready md ops listed = [] ∧ Q .normal a w
  | fuel + 1, listed, a, w =>
    (Region.ready md ops listed = [] → Q .normal a w) ∧
    ∀ i ∈ Region.ready md ops listed, wpOp P ops Q i (fun a' w' => (i ≠ z → S w') ∧ wpAnyT P md ops Q S z fuel (listed.setIfInBounds i true) a' w') a w
theorem wpAny_of_T : ∀ (fuel : Nat) (listed : Array Bool) (a : Act) (w : World), wpAnyT P md ops Q S z fuel listed a w → wpAny P md ops Q fuel listed a w
  | 0, _, _, _, h => h
  | fuel + 1, _, _, _, h => ⟨h.1, fun i hi => wpOp_mono (fun a' w' h' => wpAny_of_T fuel _ a' w' h'.2) (h.2 i hi)⟩
/-- does z wait for i? -/
def waitsFor (md : Region.Mode) (ops : Array Oper) (z i : Nat) : Bool := match ops[z]? with
  | some oz => oz.after.any fun e => Region.binds md e && e.on == i
  | none => false
theorem waits_spec {i : Nat} (h : waitsFor md ops z i = true) : ∃ oz, ops[z]? = some oz ∧ ∃ e ∈ oz.after, Region.binds md e = true ∧ e.on = i := by
  unfold waitsFor at h
  cases hz : ops[z]? with
  | none => rw [hz] at h; cases h
  | some oz =>
    rw [hz] at h
    refine ⟨oz, rfl, ?_⟩
    dsimp only at h
    rw [Array.any_eq_true'] at h
    obtain ⟨e, he, h2⟩ := h
    simp at h2
    exact ⟨e, he, h2.1, h2.2⟩
theorem wpAnyT_first {i : Nat} {oi : Oper} {v : Value} (hi : ops[i]? = some oi) (hsel : ∀ (j : Nat) (o : Oper) cs b, ops[j]? = some o → o.op ≠ .select cs b)
    (hQ : ∀ c a w, Q (.panic c) (a.put oi.dst v) w → Q (.panic c) a w) (hz : ∃ oz, ops[z]? = some oz ∧ ∃ e ∈ oz.after, Region.binds md e = true ∧ e.on = i) :
    ∀ (fuel : Nat) (listed : Array Bool) (a : Act) (w : World),
      (∀ j oj, ops[j]? = some oj → j ≠ i → listed.getD j true = false → (∀ e ∈ oj.after, Region.binds md e = true → e.on ≠ i) → oi.apart ops oj = true) →
      i ∈ Region.ready md ops listed → YieldsIf P ops S oi v a → S w →
      wpAnyT P md ops Q S z fuel (listed.setIfInBounds i true) (a.put oi.dst v) w → wpAnyT P md ops Q S z (fuel + 1) listed a w := by
  intro fuel
  induction fuel with
  | zero =>
    intro listed a w _ hr hy hS H
    refine ⟨fun h => (by rw [h] at hr; cases hr), fun j hj => ?_⟩
    by_cases hji : j = i
    · subst hji; exact hy.wpOp hi hS ⟨fun _ => hS, H⟩
    · have := ready_mono hj hji
      rw [H.1] at this
      cases this
  | succ fuel ih =>
    intro listed a w hfree hr hy hS H
    refine ⟨fun h => (by rw [h] at hr; cases hr), fun j hj => ?_⟩
    by_cases hji : j = i
    · subst hji; exact hy.wpOp hi hS ⟨fun _ => hS, H⟩
    · have h1 := H.2 j (ready_mono hj hji)
      obtain ⟨hjun, oj, hoj, hall⟩ := mem_ready.1 hj
      have hnot : ∀ e ∈ oj.after, Region.binds md e = true → e.on ≠ i := fun e he hb heq => by
        have h1 := hall e he hb
        have h0 := (mem_ready.1 hr).1
        rw [heq] at h1
        rcases Nat.lt_or_ge i listed.size with h' | h'
        · simp [h'] at h0 h1; rw [h0] at h1; cases h1
        · simp [Array.getElem?_eq_none h'] at h1
      have hjz : j ≠ z := by
        intro e
        subst e
        obtain ⟨oz, hoz, e, he, he2, he3⟩ := hz
        rw [hoj] at hoz
        cases hoz
        exact hnot e he he2 he3
      have h2 := wpOp_putIf hoj (hfree j oj hoj hji hjun hnot) (fun cs b => hsel i oi cs b hi) (fun cs b => hsel j oj cs b hoj) hQ hy h1
      have hfree' : ∀ k ok, ops[k]? = some ok → k ≠ i → (listed.setIfInBounds j true).getD k true = false →
          (∀ e ∈ ok.after, Region.binds md e = true → e.on ≠ i) → oi.apart ops ok = true := fun k ok hk hki hun hno => by
        refine hfree k ok hk hki ?_ hno
        by_cases hjk : j = k
        · subst hjk; exact hjun
        · rw [getD_set_ne true hjk] at hun; exact hun
      refine wpOp_mono (fun a' w' h3 => ⟨h3.2.1, ih (listed.setIfInBounds j true) a' w' hfree' (ready_mono hr (Ne.symm hji)) h3.1 (h3.2.1 hjz) ?_⟩) h2
      rw [Array.setIfInBounds_comm _ _ hji]
      exact h3.2.2
theorem wpAnyT_take {i : Nat} {oi : Oper} {v : Value} {fuel : Nat} {listed : Array Bool} {a : Act} {w : World} (hi : ops[i]? = some oi)
    (hs : Region.noSelect ops = true) (hf : Region.free md ops listed i = true) (hr : (Region.ready md ops listed).contains i = true) (hz : waitsFor md ops z i = true)
    (hQ : ∀ c a w, Q (.panic c) (a.put oi.dst v) w → Q (.panic c) a w) (hy : YieldsIf P ops S oi v a) (hS : S w)
    (h : wpAnyT P md ops Q S z fuel (listed.setIfInBounds i true) (a.put oi.dst v) w) : wpAnyT P md ops Q S z (fuel + 1) listed a w :=
  wpAnyT_first hi (Region.noSelect_spec hs) hQ (waits_spec hz) fuel listed a w (Region.free_spec hi hf) (by simpa using hr) hy hS h
theorem tkT (i : Nat) {oi : Oper} {v : Value} {fuel : Nat} {listed l' : Array Bool} {a a' : Act} {w : World}
    (h : wpAnyT P md ops Q S z fuel l' a' w) (hi : ops[i]? = some oi := by exact rfl) (hs : Region.noSelect ops = true := by kernel_rfl) (hf : Region.free md ops listed i = true := by kernel_rfl) (hr : (Region.ready md ops listed).contains i = true := by kernel_rfl) (hz : waitsFor md ops z i = true := by kernel_rfl)
    (hw : Region.wanted oi (yielded ops a.tmps) = true := by rfl)
    (hy : ∀ w, S w → (execOp a.eval oi).run P w = .ok (.value v) w := by intro w hSw; (try dsimp only at hSw); simp only [xa, xb, xc]; go_simp; (try with_reducible rfl))
    (hS : S w := by assumption)
    (hl : listed.setIfInBounds i true = l' := by (try simp only [List.setIfInBounds_toArray, List.set_cons_zero, List.set_cons_succ]); exact rfl)
    (ha : a.put oi.dst v = a' := by (try simp only [Act.put, xa, xb, xc, xd, xe, xf]); exact rfl)
    (hQ : ∀ c a w, Q (.panic c) (a.put oi.dst v) w → Q (.panic c) a w := by exact fun _ _ _ h => h) : wpAnyT P md ops Q S z (fuel + 1) listed a w := by
  subst hl ha
  exact wpAnyT_take hi hs hf hr hz hQ (Or.inl ⟨hw, hy⟩) hS h
/-- one operation alone may come up, and it is not z -/
theorem wpAnyT_one {i : Nat} {o : Oper} {fuel : Nat} {listed : Array Bool} {a : Act} {w : World} (hr : Region.ready md ops listed = [i]) (ho : ops[i]? = some o)
    (h : ∀ K' : Act → World → Prop, Shut (∀ a w, S w → (S w → wpAnyT P md ops Q S z fuel (listed.setIfInBounds i true) a w) → K' a w) → if Region.wanted o (yielded ops a.tmps) = true then Oper.wp P o a w K' Q else K' (a.put o.dst undef) w) : wpAnyT P md ops Q S z (fuel + 1) listed a w := by
  refine ⟨fun h0 => (by rw [hr] at h0; cases h0), fun j hj => ?_⟩
  rw [hr] at hj
  simp at hj
  subst hj
  exact wpOp_step ho (fun K' hK => h K' (fun a w hS hW => hK a w ⟨fun _ => hS, hW hS⟩))
/-- z comes up -/
theorem wpAnyT_last {o : Oper} {fuel : Nat} {listed : Array Bool} {a : Act} {w : World} (hr : Region.ready md ops listed = [z]) (ho : ops[z]? = some o)
    (h : ∀ K' : Act → World → Prop, Shut (∀ a w, wpAnyT P md ops Q S z fuel (listed.setIfInBounds z true) a w → K' a w) → if Region.wanted o (yielded ops a.tmps) = true then Oper.wp P o a w K' Q else K' (a.put o.dst undef) w) : wpAnyT P md ops Q S z (fuel + 1) listed a w := by
  refine ⟨fun h0 => (by rw [hr] at h0; cases h0), fun j hj => ?_⟩
  rw [hr] at hj
  simp at hj
  subst hj
  exact wpOp_step ho (fun K' hK => h K' (fun a w hW => hK a w ⟨fun e => absurd rfl e, hW⟩))
theorem wpAnyT_done {listed : Array Bool} {a : Act} {w : World} (hr : Region.ready md ops listed = []) (h : Q .normal a w) :
    ∀ fuel, wpAnyT P md ops Q S z fuel listed a w
  | 0 => ⟨hr, h⟩
  | _ + 1 => ⟨fun _ => h, by rw [hr]; simp⟩
theorem wp_region_T {id : Nat} {a : Act} {w : World} (hm : P.follows .mixedOrders = true) (hS : S w.drew)
    (h : S w.drew → wpAnyT P .any ops Q S z ops.size (Array.replicate ops.size false) a w.drew) : (Code.region id ops true).wp P Q a w :=
  wp_region_any hm (wpAny_of_T _ _ _ _ (h hS))
end
end Go.Proofs.YtkghabmgofgclaaDoor
namespace Go.Proofs.YtkghabmgofgclaaDoor
open Go.RowKit
set_option linter.unusedVariables false
set_option linter.unusedSimpArgs false

/-- the depths' slices -/
def dvs (dgs : List Nat) (Ds : List (List Int)) : List Value := (dgs.zip Ds).map fun p => .slice (some ⟨p.1, 0, none⟩) p.2.length p.2.length
theorem dvs_up {dgs : List Nat} {Ds : List (List Int)} (h : dgs.length = Ds.length) (dg : Nat) (D : List Int) : dvs (dgs ++ [dg]) (Ds ++ [D]) = dvs dgs Ds ++ [.slice (some ⟨dg, 0, none⟩) D.length D.length] := by
  unfold dvs
  rw [List.zip_append h]
  simp
theorem dvs_len {dgs : List Nat} {Ds : List (List Int)} (h : dgs.length = Ds.length) : (dvs dgs Ds).length = Ds.length := by
  unfold dvs; simp [h]
theorem dvs_at {dgs : List Nat} {Ds : List (List Int)} {j dg : Nat} {D : List Int} (h1 : dgs[j]? = some dg) (h2 : Ds[j]? = some D) : (dvs dgs Ds)[j]? = some (.slice (some ⟨dg, 0, none⟩) D.length D.length) := by
  unfold dvs
  rw [List.getElem?_map, List.getElem?_zip_eq_some (z := (dg, D)) |>.2 ⟨h1, h2⟩]
  rfl
/-- what is known lies in memory of its own: the slots, the depths -/
def CkAt (w : World) (lo : Nat) (sv dv : Value) (S : List Int) (Ds : List (List Int)) (dgs : List Nat) : Prop :=
  w.ownsRow lo 3 1 sv S.length (ivs S) ∧ w.ownsRow lo 68 1 dv Ds.length (dvs dgs Ds) ∧ dgs.length = Ds.length ∧ (∀ (j : Nat) dg D, dgs[j]? = some dg → Ds[j]? = some D → lo ≤ dg ∧ Bl w dg (ivs D).toArray 3) ∧ dgs.Nodup ∧ (∀ dg ∈ dgs, sv.ownBlock ≠ some dg ∧ dv.ownBlock ≠ some dg) ∧ ∀ z, sv.ownBlock = some z → dv.ownBlock ≠ some z
section
variable {w w2 : World} {lo K cap' : Nat} {sv dv : Value} {S : List Int} {Ds : List (List Int)} {dgs : List Nat} {a' : Option Addr}
theorem CkAt.fx {Q : Nat → Prop} (h : CkAt w lo sv dv S Ds dgs) (x : Fx Q w w2) (hQ : ∀ z, lo ≤ z → z < w.heap.size → ¬ Q z) : CkAt w2 lo sv dv S Ds dgs := by
  obtain ⟨h1, h2, h3, h4, h5⟩ := h
  refine ⟨own_fx h1 x (fun z hz => hQ z (own_ge h1 hz).1 (own_ge h1 hz).2), own_fx h2 x (fun z hz => hQ z (own_ge h2 hz).1 (own_ge h2 hz).2), h3, fun j dg D q1 q2 => ?_, h5⟩
  obtain ⟨q3, q4⟩ := h4 j dg D q1 q2
  exact ⟨q3, q4.fx x (hQ dg q3 q4.lt)⟩
theorem CkAt.quiet (h : CkAt w lo sv dv S Ds dgs) (x : Out 0 0 w w2) : CkAt w2 lo sv dv S Ds dgs := h.fx (Q := fun _ => False) (Fx.of_out x) (fun _ _ _ z => z)
theorem CkAt.low {l2 : Nat} (h : CkAt w lo sv dv S Ds dgs) (hl : l2 ≤ lo) : CkAt w l2 sv dv S Ds dgs := by
  obtain ⟨h1, h2, h3, h4, h5⟩ := h
  exact ⟨Go.Joins.ownsRow_le h1 hl, Go.Joins.ownsRow_le h2 hl, h3, fun j dg D q1 q2 => ⟨Nat.le_trans hl (h4 j dg D q1 q2).1, (h4 j dg D q1 q2).2⟩, h5⟩
theorem CkAt.dlt (h : CkAt w lo sv dv S Ds dgs) {dg : Nat} (hd : dg ∈ dgs) : dg < w.heap.size := by
  obtain ⟨j, hj⟩ := List.getElem?_of_mem hd
  obtain ⟨D, hD⟩ : ∃ D, Ds[j]? = some D := ⟨_, List.getElem?_eq_getElem (by have := (List.getElem?_eq_some_iff.1 hj).1; have := h.2.2.1; omega)⟩
  exact (h.2.2.2.1 j dg D hj hD).2.lt
theorem CkAt.pushS (h : CkAt w lo sv dv S Ds dgs) {y : Int} (hown : w2.ownsRow lo 3 1 (.slice a' (K + 1) cap') (K + 1) (ivs S ++ [.int .i64 y])) (hK : S.length = K) (hfx : Fx (fun k => sv.ownBlock = some k) w w2) (hnew : (Value.slice a' (K + 1) cap').ownBlock = sv.ownBlock ∨ (Value.slice a' (K + 1) cap').ownBlock = some w.heap.size) : CkAt w2 lo (.slice a' (K + 1) cap') dv (S ++ [y]) Ds dgs := by
  have hd := fun dg (hd : dg ∈ dgs) => h.dlt hd
  obtain ⟨h1, h2, h3, h4, h5, h6, h7⟩ := h
  refine ⟨by rw [List.length_append, hK]; unfold ivs at *; rw [List.map_append]; exact hown, own_fx h2 hfx (fun z hz e => h7 z e hz), h3, fun j dg D q1 q2 => ?_, h5, fun dg q => ?_, fun z hz => ?_⟩
  · obtain ⟨q3, q4⟩ := h4 j dg D q1 q2
    exact ⟨q3, q4.fx hfx (fun e => (h6 dg (List.mem_of_getElem? q1)).1 e)⟩
  · refine ⟨?_, (h6 dg q).2⟩
    rcases hnew with e | e
    · rw [e]; exact (h6 dg q).1
    · rw [e]; intro c; have := hd dg q; cases c; omega
  · rcases hnew with e | e
    · rw [e] at hz; exact h7 z hz
    · rw [e] at hz; cases hz
      intro c
      have := (own_ge h2 c).2
      omega
theorem CkAt.pushD (h : CkAt w lo sv dv S Ds dgs) {dg : Nat} {D : List Int} (hdg : Bl w dg (ivs D).toArray 3) (hlo : lo ≤ dg) (hn : dg ∉ dgs) (hs : sv.ownBlock ≠ some dg) (hv : dv.ownBlock ≠ some dg) (hown : w2.ownsRow lo 68 1 (.slice a' (K + 1) cap') (K + 1) (dvs dgs Ds ++ [.slice (some ⟨dg, 0, none⟩) D.length D.length])) (hK : Ds.length = K) (hfx : Fx (fun k => dv.ownBlock = some k) w w2) (hnew : (Value.slice a' (K + 1) cap').ownBlock = dv.ownBlock ∨ (Value.slice a' (K + 1) cap').ownBlock = some w.heap.size) : CkAt w2 lo sv (.slice a' (K + 1) cap') S (Ds ++ [D]) (dgs ++ [dg]) := by
  have hd := fun dg (hd : dg ∈ dgs) => h.dlt hd
  obtain ⟨h1, h2, h3, h4, h5, h6, h7⟩ := h
  refine ⟨own_fx h1 hfx (fun z hz e => h7 z hz e), by rw [List.length_append, hK, dvs_up h3]; exact hown, by simp [h3], fun j dg' D' q1 q2 => ?_, ?_, fun dg' q => ?_, fun z hz => ?_⟩
  · by_cases hj : j < dgs.length
    · rw [List.getElem?_append_left hj] at q1
      rw [List.getElem?_append_left (by omega)] at q2
      obtain ⟨q3, q4⟩ := h4 j dg' D' q1 q2
      exact ⟨q3, q4.fx hfx (fun e => (h6 dg' (List.mem_of_getElem? q1)).2 e)⟩
    · have hlt := (List.getElem?_eq_some_iff.1 q1).1
      simp at hlt
      obtain rfl : j = dgs.length := by omega
      simp at q1
      rw [h3] at q2
      simp at q2
      subst q1 q2
      exact ⟨hlo, hdg.fx hfx hv⟩
  · rw [List.nodup_append]
    exact ⟨h5, by simp, fun a ha b hb e => by simp at hb; subst hb; exact hn (e ▸ ha)⟩
  · have : sv.ownBlock ≠ some dg' ∧ dv.ownBlock ≠ some dg' ∧ dg' < w.heap.size := by
      rcases List.mem_append.1 q with q | q
      · exact ⟨(h6 dg' q).1, (h6 dg' q).2, hd dg' q⟩
      · simp at q; subst q; exact ⟨hs, hv, hdg.lt⟩
    refine ⟨this.1, ?_⟩
    rcases hnew with e | e
    · rw [e]; exact this.2.1
    · rw [e]; intro c; have := this.2.2; cases c; omega
  · rcases hnew with e | e
    · rw [e]; exact h7 z hz
    · rw [e]; intro c
      have := (own_ge h1 hz).2
      cases c; omega
end
theorem app_stepRun (w : World) {o : Oper} {a : Act} {K : Act → World → Prop} {Q : Exit → Act → World → Prop} (d s : Operand) (t t' : TypeId)
    (ho : o.op = .call { callee := .builtin .append, args := #[d, s], argTypes := #[t, t'] }) (v u : Value) (hd : a.eval d = v) (hs : a.eval s = u) {v' : Value} {w' : World}
    (hr : (Builtin.append_ #[t, t'] o.type #[v, u]).run Tryd.prog w = .ok v' w') (h : K (a.put o.dst v') w') : o.wp Tryd.prog a w K Q := by
  unfold Oper.wp execOp
  simp only [ho, resolve, invoke, builtin, Sem.run_bind, Sem.run_pure, Result.andThen_ok, List.map_toArray, List.map_cons, List.map_nil, hd, hs, hr]
  exact h
/-- what is asked of the functions ahead of the ways -/
def OkFs (nf : Nat) (fs : List (Int × Int × Int × List (Int × Int))) : Prop := ∀ f ∈ fs, f.2.2.2 ≠ [] ∧ f.2.2.2.length ≤ 4096 ∧ (0 ≤ f.2.1 ∧ f.2.1 ≤ 64) ∧ ∀ y ∈ f.2.2.2, OkX nf f.2.2.2.length fs y
/-- what 'gone' tells -/
def GnQ (w : World) (o : Sum (Int × Nat × Nat) (List Int × List (List Int))) (e : Ending) (w' : World) : Prop := Out 0 0 w w' ∧ ((∃ S Ds sv dv dgs, o = .inr (S, Ds) ∧ e = .returned (.agg #[sv, dv]) ∧ CkAt w' w.heap.size sv dv S Ds dgs) ∨ ∃ er f i, o = .inl (er, f, i) ∧ e = .panicked [badP er (f : Nat) i])
theorem fl_cells {w : World} {base B m rc j : Nat} {ra : Option Addr} {fs : List (Int × Int × Int × List (Int × Int))} (x : Int) (ta : Option Addr) (nt tc : Nat) (fa : Option Addr) (nf fc : Nat) {xs : List Value} {f : Int × Int × Int × List (Int × Int)} (hown : w.ownsRow base 104 8 (.slice ra m rc) m xs) (hL : FnL w B fs x ta nt tc fa nf fc m xs) (hj : j < m) (hf : fs[j]? = some f) : ∃ q pj cj, ra = some ⟨q, 0, none⟩ ∧ base ≤ q ∧ InIn w B pj f.2.2.2 ∧ ∀ (c : Nat) v, (fnC x ta nt tc fa nf fc f pj cj j)[c]? = some v → w.cell? ⟨q, 0 + j * 8 + c, none⟩ = some v := by
  obtain ⟨pj, cj, h1, h2⟩ := hL.2 j f hj hf
  rcases hown.2 with ⟨he, h0⟩ | ⟨q, cap2, cur, he, hq1, hq2, hq3, hq4, hq5, hq6⟩
  · omega
  · cases he
    refine ⟨q, pj, cj, rfl, hq1, h2, fun c v hc => ?_⟩
    have hc8 : c < 8 := by have := (List.getElem?_eq_some_iff.1 hc).1; exact this
    rw [← h1, List.getElem?_take_of_lt hc8, List.getElem?_drop, ← hq6, List.getElem?_take_of_lt (by omega)] at hc
    have hB : Bl w q cur 104 := hq2
    rw [Nat.zero_add]
    exact hB.cell (by simpa using hc)
theorem gn_er {fs : List (Int × Int × Int × List (Int × Int))} {k i : Nat} {S : List Int} {Ds : List (List Int)} {f : Int × Int × Int × List (Int × Int)} {l : List (Int × Int × Int × List (Int × Int))} {e : Int} (h : wyA fs f.2.2.2 = .inl (e, i)) : gnF fs k S Ds (f :: l) = .inl (e, k, i) := by rw [gnF, h]
theorem gn_go {fs : List (Int × Int × Int × List (Int × Int))} {k : Nat} {S : List Int} {Ds : List (List Int)} {f : Int × Int × Int × List (Int × Int)} {l : List (Int × Int × Int × List (Int × Int))} {D : List Int} (h : wyA fs f.2.2.2 = .inr D) : gnF fs k S Ds (f :: l) = gnF fs (k + 1) (S ++ [f.2.1 + mxL D]) (Ds ++ [D]) l := by rw [gnF, h]
theorem info_int : (Tryd.prog.info? 3).map (fun i => (i.zero, i.size, i.bytes)) = some (some (.int .i64 0), 1, 8) := by kernel_rfl
theorem info_ints : (Tryd.prog.info? 68).map (fun i => (i.zero, i.size, i.bytes)) = some (some (.slice none 0 0), 1, 24) := by kernel_rfl
theorem info_ck (a b : Value) : (Tryd.prog.info? 71).map (·.size) = some (#[a, b] : Array Value).size := by rw [show (#[a, b] : Array Value).size = 2 from rfl]; kernel_rfl
theorem slot_w {l m : Int} (h1 : 0 ≤ l ∧ l ≤ 64) (h2 : 0 ≤ m) (h3 : m ≤ 64) : IntKind.i64.wrap (l + m) = l + m := by
  simp [IntKind.wrap, IntKind.signed, IntKind.bits]; omega
set_option maxRecDepth 100000 in
set_option maxHeartbeats 4000000 in
theorem gone_any {w : World} {B rc : Nat} {ra : Option Addr} (x : Int) (ta : Option Addr) (nt tc : Nat) (fa : Option Addr) (nf fc : Nat) {fs : List (Int × Int × Int × List (Int × Int))} {xs : List Value} {base : Nat} (hown : w.ownsRow base 104 8 (.slice ra nf rc) nf xs) (hL : FnL w B fs x ta nt tc fa nf fc nf xs) (hfs : FnIn w B fa fs) (hnf : fs.length = nf) (hB : B ≤ w.heap.size) (hn : nf ≤ 64) (hok : OkFs nf fs) :
    Calls Tryd.prog 57 #[.slice ra nf rc] w (GnQ w (gnF fs 0 [] [] fs)) := by
  obtain ⟨b, hb⟩ : ∃ b, w.heap.size = b := ⟨_, rfl⟩
  obtain ⟨V, hV⟩ : ∃ V, (w.alloc (.cells #[.slice none 0 0, .slice none 0 0] 71)).alloc (.cells #[.slice none 0 0, .slice none 0 0] 71) = V := ⟨_, rfl⟩
  have oV : Out 0 0 w V := by rw [← hV]; exact ((Out.refl 0 0 w).alloc _).alloc _
  have B0 : Bl V b #[.slice none 0 0, .slice none 0 0] 71 := by rw [← hV, ← hb]; exact (Bl.new _ _ _).alloc _
  have B1 : Bl V (b + 1) #[.slice none 0 0, .slice none 0 0] 71 := by
    rw [← hV, ← hb]
    have := Bl.new (w.alloc (.cells #[.slice none 0 0, .slice none 0 0] 71)) #[.slice none 0 0, .slice none 0 0] 71
    rwa [size_alloc] at this
  have HB0 := hid_mk B0
  have HB1 := hid_mk B1
  have HO := hid_mk oV
  have HH := hid_mk (And.intro hown (And.intro hL (And.intro hfs (And.intro hnf (And.intro hB (And.intro hn hok))))))
  have HBZ : Hid (w.heap.size = b) := hid_mk hb
  clear hown hL hfs hnf hB hn hok oV B0 B1
  go_enter Tryd.func57, Tryd.ntmps57
  go_wp2
  (try rw [hV])
  (try rw [hb])
  clear hV hb
  go_loopw [9] (fun c wr => ∃ (m : Nat) (sa : Option Addr) (sc : Nat) (da : Option Addr) (dc : Nat) (S : List Int) (Ds : List (List Int)) (dgs : List Nat), c = .int .i64 m ∧ m ≤ nf ∧ S.length = m ∧ Ds.length = m ∧ Bl wr (b + 1) #[.slice sa m sc, .slice da m dc] 71 ∧ CkAt wr (b + 1 + 1) (.slice sa m sc) (.slice da m dc) S Ds dgs ∧ gnF fs m S Ds (fs.drop m) = gnF fs 0 [] [] fs ∧ Bl wr b #[.slice none 0 0, .slice none 0 0] 71 ∧ Out 0 0 w wr) (fun c _ => nf - (intOf c).toNat)
  case atStart => exact ⟨0, none, 0, none, 0, [], [], [], rfl, Nat.zero_le _, rfl, rfl, HB1.out, ⟨World.ownsRow_nil _ _ _ 1, World.ownsRow_nil _ _ _ 1, rfl, (fun j dg D h => by simp at h), List.nodup_nil, (fun dg h => by cases h), (fun z h => by cases h)⟩, rfl, HB0.out, HO.out⟩
  case round =>
    obtain ⟨m, sa, sc, da, dc, S, Ds, dgs, rfl, hm, hSl, hDl, hB1, hC, hg, hB0, ho⟩ := hrel
    have HC := hid_mk hC
    have HG := hid_mk hg
    have HO1 := hid_mk ho
    have HB1 := hid_mk hB1
    have HB0 := hid_mk hB0
    have HSl := hid_mk (And.intro hSl hDl)
    by_cases hgo : m < nf
    · obtain ⟨l1, l2⟩ := lt_dec hgo
      obtain ⟨hown, hL, hfs, hnf, hBs, hn64, hok⟩ := HH.out
      obtain ⟨f, hf⟩ : ∃ f, fs[m]? = some f := ⟨_, List.getElem?_eq_getElem (by omega)⟩
      obtain ⟨q, pj, cj, rfl, hq, hin, hcl⟩ := fl_cells x ta nt tc fa nf fc (own_fx (S := fun _ => False) hown (Fx.of_out ho) (fun _ _ z => z)) (hL.kept (Lo.of_out ho)) hgo hf
      obtain ⟨f1, f2, f3, f4⟩ := hok f (List.mem_of_getElem? hf)
      have j0 := hcl 0 _ rfl
      have j1 := hcl 1 _ rfl
      have j2 := hcl 2 _ rfl
      have j3 := hcl 3 _ rfl
      have j4 := hcl 4 _ rfl
      have j5 := hcl 5 _ rfl
      have j6 := hcl 6 _ rfl
      have j7 := hcl 7 _ rfl
      simp only [Nat.zero_add, Nat.add_zero] at j0 j1 j2 j3 j4 j5 j6 j7
      have hmi : (m : Int) < (nf : Int) := by omega
      obtain ⟨G, hG⟩ : ∃ G, wr.heap.size = G := ⟨_, rfl⟩
      obtain ⟨V2, hV2⟩ : ∃ V2, wr.alloc (.cells #[.int .i64 f.1, .int .i64 f.2.1, .int .i64 f.2.2.1, .slice pj f.2.2.2.length cj, .int .i64 m, .int .i64 x, .slice ta nt tc, .slice fa nf fc] 104) = V2 := ⟨_, rfl⟩
      have oV : Out 0 0 wr V2 := by rw [← hV2]; exact (Out.refl 0 0 wr).alloc _
      have bI : Bl V2 G #[.int .i64 f.1, .int .i64 f.2.1, .int .i64 f.2.2.1, .slice pj f.2.2.2.length cj, .int .i64 m, .int .i64 x, .slice ta nt tc, .slice fa nf fc] 104 := by rw [← hV2, ← hG]; exact Bl.new _ _ _
      have y0 := bI.cell (i := 0) rfl
      have y1 := bI.cell (i := 1) rfl
      have y2 := bI.cell (i := 2) rfl
      have y3 := bI.cell (i := 3) rfl
      have y4 := bI.cell (i := 4) rfl
      have y5 := bI.cell (i := 5) rfl
      have y6 := bI.cell (i := 6) rfl
      have y7 := bI.cell (i := 7) rfl
      have HWy := hid_mk (ways_any (w := V2) f.1 f.2.1 f.2.2.1 pj f.2.2.2.length cj (m : Int) x ta nt tc fa nf fc (hin.kept (Lo.of_out oV) (Nat.le_refl _)) rfl (List.length_pos_iff.2 f1) f2 (hfs.kept (Lo.of_out (ho.trans oV)) (Nat.le_refl _)) hnf (Nat.le_trans hBs (ho.trans oV).size) f4)
      have HOV := hid_mk (HO1.out.trans oV)
      have HB1' := hid_mk (HB1.out.kept oV (.inr (Nat.zero_le _)))
      have HB0' := hid_mk (HB0.out.kept oV (.inr (Nat.zero_le _)))
      have HC' := hid_mk (HC.out.quiet oV)
      have HF := hid_mk (And.intro hf (And.intro hgo (And.intro f1 f3)))
      have HCG : Hid ((∀ z, (Value.slice sa m sc).ownBlock = some z → z < G) ∧ ∀ z, (Value.slice da m dc).ownBlock = some z → z < G) := hid_mk ⟨fun z hz => hG ▸ (own_ge hC.1 hz).2, fun z hz => hG ▸ (own_ge hC.2.1 hz).2⟩
      have HGs : Hid (b + 1 < G) := hid_mk (hG ▸ hB1.lt)
      clear hB1 hC hg hB0 ho hSl hDl hgo hown hL hfs hnf hBs hn64 hok hin hcl f1 f2 f3 f4 oV bI hf hq HB1 HB0 HC HO1 hm
      go_wp2_with fail
      (try rw [hV2])
      (try rw [hG])
      refine HWy.out.mono ?_
      clear hV2 hG
      rintro e w3 ⟨o3, ⟨D, dg, z1, rfl, z2, z3⟩ | ⟨er, i, z1, rfl⟩⟩
      · obtain ⟨d1, d2, d3, d4, d5⟩ := dep_of HF.out.2.2.1 z1
        have hmx := mx_le (n := 64) (by decide) (fun j d q => (d2 j d q).2)
        have hsw := slot_w HF.out.2.2.2 (mx_nn D) hmx
        have HMax := hid_mk (fun (w' : World) (h : Bl w' dg (ivs D).toArray 3) => max_any (c := f.2.2.2.length) h d1 d3 (HH.out.2.2.2.2.2.2 f (List.mem_of_getElem? HF.out.1)).2.1)
        have HZ1 := hid_mk (And.intro z1 d1)
        have HD := hid_mk z2
        have HDG : Hid (V2.heap.size ≤ dg) := hid_mk z3
        have HO3 := hid_mk (HOV.out.trans o3)
        have HB1 := hid_mk (HB1'.out.kept o3 (.inr (Nat.zero_le _)))
        have HB0 := hid_mk (HB0'.out.kept o3 (.inr (Nat.zero_le _)))
        have HC := hid_mk (HC'.out.quiet o3)
        have HCd : Hid (∀ z, z ∈ dgs → z < V2.heap.size) := hid_mk fun z hz => HC'.out.dlt hz
        have HCs : Hid ((∀ z, (Value.slice sa m sc).ownBlock = some z → z < V2.heap.size) ∧ ∀ z, (Value.slice da m dc).ownBlock = some z → z < V2.heap.size) := hid_mk ⟨fun z hz => (own_ge HC'.out.1 hz).2, fun z hz => (own_ge HC'.out.2.1 hz).2⟩
        have HGV : Hid (G < V2.heap.size) := hid_mk (cell_lt y1)
        have s0 := HB1.out.cell (i := 0) rfl
        replace y1 := o3.cell y1 (.inr (Nat.zero_le _))
        clear d1 d2 d3 d4 d5 z1 z2 z3 o3 hmx HB1' HB0' HC' HWy HOV y0 y2 y3 y4 y5 y6 y7 j0 j1 j2 j3 j4 j5 j6 j7
        obtain ⟨n, hn⟩ : ∃ n, f.2.2.2.length = n := ⟨_, rfl⟩
        rw [hn] at HMax HZ1
        rw [hn]
        go_wp2_with fail
        obtain ⟨V3, hV3⟩ : ∃ V3, w3.drew = V3 := ⟨_, rfl⟩
        refine wp_region_T (S := fun w' => w'.cell? ⟨b + 1, 0, none⟩ = some (.slice sa m sc) ∧ w'.cell? ⟨G, 1, none⟩ = some (.int .i64 f.2.1)) (z := 11) (by kernel_rfl) ?hS1 (fun hHeld => ?rest1)
        case hS1 => exact ⟨s0, y1⟩
        refine tkT 0 ?_
        refine tkT 1 ?_
        refine tkT 2 ?_
        refine tkT 3 ?_
        refine tkT 4 ?_
        refine tkT 5 ?_
        refine wpAnyT_one (i := 6) (by kernel_rfl) rfl (fun KK hK => ?_)
        simp only [xa, xb, xc]
        go_simp
        refine calls_same (HMax.out _ (by rw [← hV3]; exact HD.out)) ?_
        refine hK.out _ _ ?hS8 (fun hHeld2 => ?rest8)
        case hS8 => exact ⟨by rw [← hV3]; exact s0, by rw [← hV3]; exact y1⟩
        clear hK KK
        (try clear hHeld)
        have hHeld := hHeld2
        clear hHeld2
        (try simp only [Act.put, xa, xb, xc, xd, xe, xf])
        refine tkT 7 ?_
        refine wpAnyT_one (i := 8) (by kernel_rfl) rfl (fun KK hK => ?_)
        simp only [xa, xb, xc]
        go_simp
        obtain ⟨X1, hX1⟩ : ∃ X1, V3.alloc (.cells #[.int .i64 (f.2.1 + mxL D)] 3) = X1 := ⟨_, rfl⟩
        obtain ⟨t1, ht1⟩ : ∃ t1, V3.heap.size = t1 := ⟨_, rfl⟩
        rw [hX1, ht1]
        have o9 : Out 0 0 w3 X1 := by rw [← hX1, ← hV3]; exact ((Out.refl 0 0 w3).drew).alloc _
        have HX1 : Hid (Bl X1 t1 #[.int .i64 (f.2.1 + mxL D)] 3) := hid_mk (by rw [← hX1, ← ht1]; exact Bl.new _ _ _)
        clear hX1 ht1
        refine hK.out _ _ ?hS10 (fun hHeld2 => ?rest10)
        case hS10 => exact ⟨o9.cell s0 (.inr (Nat.zero_le _)), o9.cell y1 (.inr (Nat.zero_le _))⟩
        clear hK KK
        (try clear hHeld)
        have hHeld := hHeld2
        clear hHeld2
        (try simp only [Act.put, xa, xb, xc, xd, xe, xf])
        refine wpAnyT_one (i := 9) (by kernel_rfl) rfl (fun KK hK => ?_)
        obtain ⟨a', cap', w6, hr, q1, q2, q3⟩ := app_one Tryd.underlying68 info_int rfl (by decide) (by decide) (HSl.out.1 ▸ (HC.out.quiet o9).1) (by have := HB1.out.lt; have := o9.size; omega) (ys := [.int .i64 (f.2.1 + mxL D)]) HX1.out rfl (by intro u hu; simp at hu; subst hu; rfl) (by have := HH.out.2.2.2.2.2.1; have := HF.out.2.1; omega) 68
        refine app_stepRun X1 _ _ _ _ rfl _ _ rfl rfl hr ?_
        refine hK.out _ _ ?hS11 (fun hHeld2 => ?rest11)
        case hS11 => exact ⟨((HB1.out.kept o9 (.inr (Nat.zero_le _))).fx q2 (fun z => by have := (own_ge HC.out.1 z).1; omega)).cell (i := 0) rfl, q2.cell (o9.cell y1 (.inr (Nat.zero_le _))) (fun z => by have := HCG.out.1 _ z; omega)⟩
        clear hK KK
        (try clear hHeld)
        have hHeld := hHeld2
        clear hHeld2
        (try simp only [Act.put, xa, xb, xc, xd, xe, xf])
        refine tkT 10 ?_
        refine wpAnyT_last (by kernel_rfl) rfl (fun KK hK => ?_)
        simp only [xa, xb, xc]
        have s9 := hHeld.1
        have z9 := ((HB1.out.kept o9 (.inr (Nat.zero_le _))).fx q2 (fun z => by have := (own_ge HC.out.1 z).1; omega)).frozen 0
        go_simp
        refine hK.out _ _ ?_
        clear hK KK
        (try simp only [Act.put, xa, xb, xc, xd, xe, xf])
        refine wpAnyT_done (by kernel_rfl) ?_ _
        have hlo : ∀ z, (Value.slice sa m sc).ownBlock = some z → b + 1 + 1 ≤ z := fun z hz => (own_ge HC.out.1 hz).1
        have hC6 := (HC.out.quiet o9).pushS q1 HSl.out.1 q2 q3
        obtain ⟨W6, hW6⟩ : ∃ W6, w6.setCell ⟨b + 1, 0, none⟩ (.slice a' (m + 1) cap') = W6 := ⟨_, rfl⟩
        have hx6 : Fx (fun z => z = b + 1) w6 W6 := by rw [← hW6]; exact (Fx.refl (fun z => z = b + 1) _).set (p := ⟨b + 1, 0, none⟩) (.inl rfl) _
        have HC6 := hid_mk (hC6.fx hx6 (fun z h1 _ e => by omega))
        have HB16 : Hid (Bl W6 (b + 1) #[.slice a' (m + 1) cap', .slice da m dc] 71) := hid_mk (by
          rw [← hW6]
          exact ((HB1.out.kept o9 (.inr (Nat.zero_le _))).fx q2 (fun z => by have := hlo _ z; omega)).set 0 _)
        have HB06 := hid_mk (((HB0.out.kept o9 (.inr (Nat.zero_le _))).fx q2 (fun z => by have := hlo _ z; omega)).fx hx6 (by omega))
        have HD6 := hid_mk (((HD.out.kept o9 (.inr (Nat.zero_le _))).fx q2 (fun z => by have := HCs.out.1 _ z; have := HDG.out; omega)).fx hx6 (by have := HDG.out; have := HGV.out; have := HGs.out; omega))
        have HO6 : Hid (Out 0 0 w W6) := hid_mk (out_lo HO3.out (dg := b + 1) (((Fx.of_out o9).trans (q2.wide fun z _ hz => by have := hlo z hz; omega)).trans (hx6.wide fun z _ hz => by omega)) (by have := HBZ.out; omega))
        have HV6 : Hid (V2.heap.size ≤ W6.heap.size ∧ dg < W6.heap.size) := hid_mk ⟨by have := HDG.out; have := HD6.out.lt; omega, HD6.out.lt⟩
        have s1 := HB16.out.cell (i := 1) rfl
        have z1 := HB16.out.frozen 1
        have HA' : Hid ((∀ z, (Value.slice a' (m + 1) cap').ownBlock = some z → z ≠ dg)) := hid_mk fun z hz e => by
          rcases q3 with c | c
          · rw [c] at hz; have := HCs.out.1 _ hz; have := HDG.out; omega
          · rw [c] at hz
            have h1 : X1.heap.size = z := Option.some.inj hz
            have := (HD.out.kept o9 (.inr (Nat.zero_le _))).lt
            omega
        rw [hW6]
        have HLen : Hid (D.length = n) := hid_mk HZ1.out.2
        clear hC6 hx6 hW6 q1 q2 q3 hr hHeld s0 y1 o9 HX1 HMax hsw HD HC HB1 HB0 hV3 HO3 hlo
        have HVD : Hid (Bl (W6.alloc (.cells #[.slice (some ⟨dg, 0, none⟩) n n] 68)) W6.heap.size #[.slice (some ⟨dg, 0, none⟩) n n] 68) := hid_mk (Bl.new _ _ _)
        go_wp2_with (at_builtin; refine app_put Tryd.underlying69 info_ints rfl (by decide) (by decide) rfl _ _ rfl rfl rfl (HSl.out.2 ▸ (HC6.out.quiet ((Out.refl 0 0 W6).alloc _)).2.1) (by rw [size_alloc]; have := HB16.out.lt; omega) (ys := [.slice (some ⟨dg, 0, none⟩) n n]) HVD.out rfl (by intro u hu; simp at hu; subst hu; rfl) (by have := HH.out.2.2.2.2.2.1; have := HF.out.2.1; omega) ?_; intro a2 cap2 w8 q1 q2 q3; have B8 := (HB16.out.alloc (.cells #[.slice (some ⟨dg, 0, none⟩) n n] 68)).fx q2 (fun z => by have := (own_ge HC6.out.2.1 z).1; omega); have t1 := B8.cell (i := 1) rfl; have z8 := B8.frozen 1; have HB8 := hid_mk B8; have H1 := hid_mk q1; have H2 := hid_mk q2; have H3 := hid_mk q3; clear B8 q1 q2 q3)
        have hlo : ∀ z, (Value.slice da m dc).ownBlock = some z → b + 1 + 1 ≤ z := fun z hz => (own_ge HC6.out.2.1 hz).1
        have hA1 := (Out.refl 0 0 W6).alloc (.cells #[.slice (some ⟨dg, 0, none⟩) n n] 68)
        have hx8 : Fx (fun z => z = b + 1) w8 (w8.setCell ⟨b + 1, 1, none⟩ (.slice a2 (m + 1) cap2)) := (Fx.refl (fun z => z = b + 1) _).set (p := ⟨b + 1, 1, none⟩) (.inl rfl) _
        have hdv : (Value.slice da m dc).ownBlock ≠ some dg := fun e => by have := HCs.out.2 _ e; have := HDG.out; omega
        have hC8 := (HC6.out.quiet hA1).pushD (dg := dg) (D := D) (HD6.out.kept hA1 (.inr (Nat.zero_le _))) (by have := HDG.out; have := HGV.out; have := HGs.out; omega) (fun e => by have := HCd.out _ e; have := HDG.out; omega) (fun e => HA'.out _ e rfl) hdv (by rw [HLen.out]; exact H1.out) HSl.out.2 H2.out H3.out
        refine ⟨⟨m + 1, a', cap', a2, cap2, S ++ [f.2.1 + mxL D], Ds ++ [D], dgs ++ [dg], up_v HF.out.2.1 (by have := HH.out.2.2.2.2.2.1; omega), HF.out.2.1, by simp [HSl.out.1], by simp [HSl.out.2], HB8.out.set 1 _, hC8.fx hx8 (fun z h1 _ e => by omega), ?_, ?_, ?_⟩, ?_⟩
        · rw [← HG.out, drop_at HF.out.1, gn_go HZ1.out.1]
        · exact (((HB06.out.kept hA1 (.inr (Nat.zero_le _))).fx H2.out (fun z => by have := hlo _ z; omega))).fx hx8 (by omega)
        · exact out_lo HO6.out (dg := b + 1) (((Fx.of_out hA1).trans (H2.out.wide fun z _ hz => by have := hlo z hz; omega)).trans (hx8.wide fun z _ hz => by omega)) (by have := HBZ.out; omega)
        · rw [up_w HF.out.2.1 (by have := HH.out.2.2.2.2.2.1; omega)]
          exact ms_n HF.out.2.1
      · refine ⟨rfl, HOV.out.trans o3, .inr ⟨er, m, i, ?_, rfl⟩⟩
        rw [← HG.out, drop_at HF.out.1, gn_er z1]
    · obtain rfl : m = nf := by omega
      have l1 : decide ((m : Int) < (m : Int)) = false := by simp
      have c0 := hB1.cell (i := 0) rfl
      have c1 := hB1.cell (i := 1) rfl
      have r0 := hB0.cell (i := 0) rfl
      have r1 := hB0.cell (i := 1) rfl
      have f0 := hB0.frozen 0
      have f1 := hB0.frozen 1
      have HE : Hid (gnF fs 0 [] [] fs = .inr (S, Ds)) := hid_mk (by rw [← HG.out, List.drop_of_length_le (by have := HH.out.2.2.2.1; omega)]; rfl)
      clear hgo hB1 hC hg hB0 ho hSl hDl
      go_wp2
      have hF := (HB0.out.set 0 (.slice sa m sc)).set 1 (.slice da m dc)
      have hx : Fx (fun z => z = b) wr ((wr.setCell ⟨b, 0, none⟩ (.slice sa m sc)).setCell ⟨b, 1, none⟩ (.slice da m dc)) := ((Fx.refl (fun z => z = b) _).set (p := ⟨b, 0, none⟩) (.inl rfl) _).set (p := ⟨b, 1, none⟩) (.inl rfl) _
      refine bodyPost_ret (v := .agg #[.slice sa m sc, .slice da m dc]) (results_cell_row Tryd.results57 _ _ b 71 _ (0, 0) _ rfl hF Tryd.underlying71 rfl (info_ck _ _)) rfl ⟨out_lo HO1.out (dg := b) (hx.wide fun z _ hz => by omega) (by have := HBZ.out; omega), .inl ⟨S, Ds, _, _, dgs, HE.out, rfl, ?_⟩⟩
      exact (HC.out.fx hx (fun z h1 _ e => by omega)).low (by have := HBZ.out; omega)
end Go.Proofs.YtkghabmgofgclaaDoor
namespace Go.Proofs.YtkghabmgofgclaaDoor
open Go.RowKit
set_option linter.unusedVariables false
set_option linter.unusedSimpArgs false

theorem ccaught_nil (w : World) : Calls Tryd.prog 53 #[.nilIface] w fun e w' => e = .returned (.tuple #[.int .i64 0, .int .i64 0, .int .i64 0]) ∧ w' = w := by
  go_enter Tryd.func53, Tryd.ntmps53
  go_wp2
  go_ret3
  exact ⟨rfl, rfl⟩
theorem ccaught_stop (er f i : Int) (w : World) : Calls Tryd.prog 53 #[.iface 125 (.agg #[.int .i64 er, .int .i64 f, .int .i64 i])] w fun e w' => e = .returned (.tuple #[.int .i64 f, .int .i64 i, .int .i64 er]) ∧ Out 0 0 w w' := by
  have HO := hid_mk (((Out.refl 0 0 w).alloc (.cells #[.int .i64 er, .int .i64 f, .int .i64 i] 125)).drew)
  have h2 : ∀ W, (Instr.typeAssert (.iface 125 (.agg #[.int .i64 er, .int .i64 f, .int .i64 i])) 20 125 true).run Tryd.prog W = .ok (.tuple #[.agg #[.int .i64 er, .int .i64 f, .int .i64 i], .bool true]) W := fun W => by kernel_rfl
  go_enter Tryd.func53, Tryd.ntmps53
  go_wp2
  go_region
  go_wp2
  go_ret3
  exact ⟨rfl, HO.out⟩
theorem set3 {w : World} {g : Nat} {x1 x2 x3 : Int} (h1 : Bl w g #[.int .i64 x1] 3) (h2 : Bl w (g + 1) #[.int .i64 x2] 3) (h3 : Bl w (g + 1 + 1) #[.int .i64 x3] 49) (y1 y2 y3 : Int) :
    Bl (((w.setCell ⟨g, 0, none⟩ (.int .i64 y1)).setCell ⟨g + 1, 0, none⟩ (.int .i64 y2)).setCell ⟨g + 1 + 1, 0, none⟩ (.int .i64 y3)) g #[.int .i64 y1] 3 ∧ Bl (((w.setCell ⟨g, 0, none⟩ (.int .i64 y1)).setCell ⟨g + 1, 0, none⟩ (.int .i64 y2)).setCell ⟨g + 1 + 1, 0, none⟩ (.int .i64 y3)) (g + 1) #[.int .i64 y2] 3 ∧
    Bl (((w.setCell ⟨g, 0, none⟩ (.int .i64 y1)).setCell ⟨g + 1, 0, none⟩ (.int .i64 y2)).setCell ⟨g + 1 + 1, 0, none⟩ (.int .i64 y3)) (g + 1 + 1) #[.int .i64 y3] 49 ∧ Out g (g + 3) w (((w.setCell ⟨g, 0, none⟩ (.int .i64 y1)).setCell ⟨g + 1, 0, none⟩ (.int .i64 y2)).setCell ⟨g + 1 + 1, 0, none⟩ (.int .i64 y3)) := by
  refine ⟨((h1.set 0 _).other (q := ⟨g + 1, 0, none⟩) (by show g + 1 ≠ g; omega) _).other (q := ⟨g + 1 + 1, 0, none⟩) (by show g + 1 + 1 ≠ g; omega) _, ((h2.other (q := ⟨g, 0, none⟩) (by show g ≠ g + 1; omega) _).set 0 _).other (q := ⟨g + 1 + 1, 0, none⟩) (by show g + 1 + 1 ≠ g + 1; omega) _, ((h3.other (q := ⟨g, 0, none⟩) (by show g ≠ g + 1 + 1; omega) _).other (q := ⟨g + 1, 0, none⟩) (by show g + 1 ≠ g + 1 + 1; omega) _).set 0 _, ?_⟩
  exact (((Out.refl g (g + 3) w).setCell (p := ⟨g, 0, none⟩) (.inl ⟨Nat.le_refl _, by show g < g + 3; omega⟩) _).setCell (p := ⟨g + 1, 0, none⟩) (.inl ⟨by show g ≤ g + 1; omega, by show g + 1 < g + 3; omega⟩) _).setCell (p := ⟨g + 1 + 1, 0, none⟩) (.inl ⟨by show g ≤ g + 1 + 1; omega, by show g + 1 + 1 < g + 3; omega⟩) _
theorem catchK_idle {g : Nat} {x1 x2 x3 : Int} {w : World} (h1 : Bl w g #[.int .i64 x1] 3) (h2 : Bl w (g + 1) #[.int .i64 x2] 3) (h3 : Bl w (g + 1 + 1) #[.int .i64 x3] 49) :
    CallsD Tryd.prog 52 #[.pointer (some ⟨g, 0, none⟩), .pointer (some ⟨g + 1, 0, none⟩), .pointer (some ⟨g + 1 + 1, 0, none⟩)] .returning w fun e u' w' => e = .returned (.tuple #[]) ∧ u' = .returning ∧ Bl w' g #[.int .i64 0] 3 ∧ Bl w' (g + 1) #[.int .i64 0] 3 ∧ Bl w' (g + 1 + 1) #[.int .i64 0] 49 ∧ Out g (g + 3) w w' := by
  refine callsD_of_wpS Tryd.func52 rfl fun c₀ cs hu => ?_
  apply wpS_region
  simp [wpOpsS, go_sem, recoverD, hu, Tryd.ntmps52, Exit.thenS]
  refine calls_same (ccaught_nil w) ?_
  have a1 := h1.cell (i := 0) rfl
  have a2 := h1.frozen 0
  have hs := set3 h1 h2 h3 0 0 0
  have b := h2.other (q := ⟨g, 0, none⟩) (by show g ≠ g + 1; omega) (.int .i64 0)
  have b1 := b.cell (i := 0) rfl
  have b2 := b.frozen 0
  have c := (h3.other (q := ⟨g, 0, none⟩) (by show g ≠ g + 1 + 1; omega) (.int .i64 0)).other (q := ⟨g + 1, 0, none⟩) (by show g + 1 ≠ g + 1 + 1; omega) (.int .i64 0)
  have c1 := c.cell (i := 0) rfl
  have c2 := c.frozen 0
  simp [go_sem, storeCells, a1, a2, b1, b2, c1, c2, bodyPostS, results, Tryd.results52]
  cases c₀
  simp_all
set_option maxHeartbeats 1000000 in
theorem catchK_stop {g : Nat} {x1 x2 x3 er f i : Int} {older : List PanicEntry} {w : World} (h1 : Bl w g #[.int .i64 x1] 3) (h2 : Bl w (g + 1) #[.int .i64 x2] 3) (h3 : Bl w (g + 1 + 1) #[.int .i64 x3] 49) :
    CallsD Tryd.prog 52 #[.pointer (some ⟨g, 0, none⟩), .pointer (some ⟨g + 1, 0, none⟩), .pointer (some ⟨g + 1 + 1, 0, none⟩)] (.panicking (badP er f i :: older)) w fun e u' w' => e = .returned (.tuple #[]) ∧ u' = .panicking ({ v := .iface 125 (.agg #[.int .i64 er, .int .i64 f, .int .i64 i]), recovered := true } :: older) ∧ Bl w' g #[.int .i64 f] 3 ∧ Bl w' (g + 1) #[.int .i64 i] 3 ∧ Bl w' (g + 1 + 1) #[.int .i64 er] 49 ∧ Out g (g + 3) w w' := by
  have HF : Hid (∀ w1, Out 0 0 w w1 → (w1.cell? ⟨g, 0, none⟩ = some (.int .i64 x1) ∧ w1.frozen? ⟨g, 0, none⟩ = false) ∧ ((w1.setCell ⟨g, 0, none⟩ (.int .i64 f)).cell? ⟨g + 1, 0, none⟩ = some (.int .i64 x2) ∧ (w1.setCell ⟨g, 0, none⟩ (.int .i64 f)).frozen? ⟨g + 1, 0, none⟩ = false) ∧ (((w1.setCell ⟨g, 0, none⟩ (.int .i64 f)).setCell ⟨g + 1, 0, none⟩ (.int .i64 i)).cell? ⟨g + 1 + 1, 0, none⟩ = some (.int .i64 x3) ∧ ((w1.setCell ⟨g, 0, none⟩ (.int .i64 f)).setCell ⟨g + 1, 0, none⟩ (.int .i64 i)).frozen? ⟨g + 1 + 1, 0, none⟩ = false) ∧
      Bl (((w1.setCell ⟨g, 0, none⟩ (.int .i64 f)).setCell ⟨g + 1, 0, none⟩ (.int .i64 i)).setCell ⟨g + 1 + 1, 0, none⟩ (.int .i64 er)) g #[.int .i64 f] 3 ∧ Bl (((w1.setCell ⟨g, 0, none⟩ (.int .i64 f)).setCell ⟨g + 1, 0, none⟩ (.int .i64 i)).setCell ⟨g + 1 + 1, 0, none⟩ (.int .i64 er)) (g + 1) #[.int .i64 i] 3 ∧ Bl (((w1.setCell ⟨g, 0, none⟩ (.int .i64 f)).setCell ⟨g + 1, 0, none⟩ (.int .i64 i)).setCell ⟨g + 1 + 1, 0, none⟩ (.int .i64 er)) (g + 1 + 1) #[.int .i64 er] 49 ∧ Out g (g + 3) w (((w1.setCell ⟨g, 0, none⟩ (.int .i64 f)).setCell ⟨g + 1, 0, none⟩ (.int .i64 i)).setCell ⟨g + 1 + 1, 0, none⟩ (.int .i64 er))) := hid_mk fun w1 o1 => by
    have k1 := h1.kept o1 (.inr (Nat.zero_le _))
    have k2 := h2.kept o1 (.inr (Nat.zero_le _))
    have k3 := h3.kept o1 (.inr (Nat.zero_le _))
    obtain ⟨s1, s2, s3, s4⟩ := set3 k1 k2 k3 f i er
    have b := k2.other (q := ⟨g, 0, none⟩) (by show g ≠ g + 1; omega) (.int .i64 f)
    have c := (k3.other (q := ⟨g, 0, none⟩) (by show g ≠ g + 1 + 1; omega) (.int .i64 f)).other (q := ⟨g + 1, 0, none⟩) (by show g + 1 ≠ g + 1 + 1; omega) (.int .i64 i)
    exact ⟨⟨k1.cell (i := 0) rfl, k1.frozen 0⟩, ⟨b.cell (i := 0) rfl, b.frozen 0⟩, ⟨c.cell (i := 0) rfl, c.frozen 0⟩, s1, s2, s3, (o1.any g (g + 3)).trans s4⟩
  clear h1 h2 h3
  refine callsD_of_wpS Tryd.func52 rfl fun c₀ cs hu => ?_
  apply wpS_region
  unfold badP at hu
  simp [wpOpsS, go_sem, recoverD, hu, Tryd.ntmps52, Exit.thenS]
  refine (ccaught_stop er f i w).mono ?_
  rintro e' w1 ⟨rfl, o1⟩
  have hF := HF.out w1 o1
  have a1 := hF.1.1
  have a2 := hF.1.2
  have b1 := hF.2.1.1
  have b2 := hF.2.1.2
  have c1 := hF.2.2.1.1
  have c2 := hF.2.2.1.2
  simp [go_sem, storeCells, a1, a2, b1, b2, c1, c2, bodyPostS, results, Tryd.results52]
  exact hF.2.2.2
end Go.Proofs.YtkghabmgofgclaaDoor
namespace Go.Proofs.YtkghabmgofgclaaDoor
open Go.RowKit
set_option linter.unusedVariables false
set_option linter.unusedSimpArgs false

noncomputable def ckV (P : Int × List (List Int) × List (Int × Int × Int × List (Int × Int))) : Sum (Int × Nat × Nat) (List Int × List (List Int)) := open Classical in if wrE P = 0 then chF P.1 P.2.1.length P.2.2 else .inl (62, 0, 0)
theorem wr_zero {P : Int × List (List Int) × List (Int × Int × Int × List (Int × Int))} (h : wrE P = 0) : okP P ∧ (encP P).length ≤ 65536 := by
  by_cases h1 : okP P
  · refine ⟨h1, ?_⟩
    rcases Nat.lt_or_ge 65536 (encP P).length with c | c
    · rw [(wr_long h1 c).1] at h; cases h
    · exact c
  · rw [(wr_form h1).1] at h; cases h
theorem tkS_rng (op : Int) : 0 ≤ tkS op ∧ tkS op ≤ 64 := by unfold tkS; split; decide; split; decide; split <;> decide
theorem ok_x {g : Int} {nt n : Nat} {fs : List (Int × Int × Int × List (Int × Int))} {lo ca : Int} {y : Int × Int} (hfs : ∀ f ∈ fs, 0 ≤ f.2.2.1 ∧ f.2.2.1 ≤ 64) (h : okI y) (h2 : rtB g nt fs.length lo ca y = true) (h3 : juB y.1 = true → y.2 < (n : Int)) : OkX fs.length n fs y := by
  obtain ⟨op, a⟩ := y
  have hn : opS op = 2 → 0 ≤ a := fun e => (h.2.2.1 e).1
  have r16 : op = 16 → 0 ≤ a ∧ a < (fs.length : Int) := fun e => by
    subst e
    exact ⟨hn rfl, by simpa [rtB] using h2⟩
  have r17 : op = 17 ∨ op = 18 → 0 ≤ a ∧ a ≤ 8 := fun e => by
    rcases e with rfl | rfl
    · exact ⟨hn rfl, by simpa [rtB] using h2⟩
    · exact ⟨hn rfl, by simpa [rtB] using h2⟩
  refine ⟨h.1, r16, r17, fun e => ⟨?_, h3 e⟩, ?_⟩
  · have : op = 14 ∨ op = 15 := by simpa [juB] using e
    rcases this with rfl | rfl <;> exact hn rfl
  · unfold tkV
    simp only []
    by_cases e1 : op = 16
    · rw [if_pos e1]
      obtain ⟨a0, a1⟩ := r16 e1
      unfold cpV
      rw [List.getElem?_eq_getElem (by omega)]
      exact hfs _ (List.getElem_mem _)
    · rw [if_neg e1]
      by_cases e2 : op = 17 ∨ op = 18
      · rw [if_pos e2]
        have := r17 e2
        omega
      · rw [if_neg e2]; exact tkS_rng op
theorem ok_fs {x : Int} {ts : List (List Int)} {fs : List (Int × Int × Int × List (Int × Int))} (h : okP (x, ts, fs)) (hp : ptF x ts.length fs.length 0 fs = none) : OkFs fs.length fs := by
  intro f hf
  obtain ⟨h1, h2, h3⟩ := ptF_ok hp f hf
  obtain ⟨q1, q2, q3, q4, q5⟩ := h.2.2.2.2 f hf
  exact ⟨h2, q4, q2, fun y hy => ok_x (fun f' hf' => (h.2.2.2.2 f' hf').2.2.1) (q5 y hy) (h3 y hy).1 (h3 y hy).2⟩
theorem pt_er {x : Int} {nt nf k i : Nat} {e : Int} {f : Int × Int × Int × List (Int × Int)} {l : List (Int × Int × Int × List (Int × Int))} (h : paF f.1 f.2.1 f.2.2.1 x nt nf f.2.2.2.length f.2.2.2 = some (e, i)) : ptF x nt nf k (f :: l) = some (e, k, i) := by
  unfold paF at h
  rw [ptF]
  by_cases c : f.2.1 < f.1 ∨ f.2.2.2 = []
  · rw [if_pos c]
    rw [if_pos (c.imp_right fun z => by rw [z]; rfl)] at h
    cases h
    rfl
  · rw [if_neg c]
    rw [if_neg (fun z => c (z.imp_right fun z => List.eq_nil_of_length_eq_zero z))] at h
    rw [h]
theorem pt_go {x : Int} {nt nf k : Nat} {f : Int × Int × Int × List (Int × Int)} {l : List (Int × Int × Int × List (Int × Int))} (h : paF f.1 f.2.1 f.2.2.1 x nt nf f.2.2.2.length f.2.2.2 = none) : ptF x nt nf k (f :: l) = ptF x nt nf (k + 1) l := by
  unfold paF at h
  conv => lhs; rw [ptF]
  by_cases c : f.2.1 < f.1 ∨ f.2.2.2 = []
  · rw [if_pos (c.imp_right fun z => by rw [z]; rfl)] at h
    cases h
  · rw [if_neg c]
    rw [if_neg (fun z => c (z.imp_right fun z => List.eq_nil_of_length_eq_zero z))] at h
    rw [h]
theorem results_4 {P : Program} {fn : Func} {p q r s : Tmp} {a b c d : TypeId} {t : Array Value} {w : World} {v1 v2 v3 v4 : Value} {A1 A2 A3 A4 : Addr} (hr : fn.results = #[.cell p a, .cell q b, .cell r c, .cell s d]) (hp : t.getD p undef = .pointer (some A1)) (hq : t.getD q undef = .pointer (some A2)) (hr' : t.getD r undef = .pointer (some A3)) (hs : t.getD s undef = .pointer (some A4)) (r1 : (loadVar a A1).run P w = .ok v1 w) (r2 : (loadVar b A2).run P w = .ok v2 w) (r3 : (loadVar c A3).run P w = .ok v3 w) (r4 : (loadVar d A4).run P w = .ok v4 w) : (results fn t).run P w = .ok (.tuple #[v1, v2, v3, v4]) w := by
  have hp' : t[p]?.getD undef = .pointer (some A1) := by simpa using hp
  have hq' : t[q]?.getD undef = .pointer (some A2) := by simpa using hq
  have hr2 : t[r]?.getD undef = .pointer (some A3) := by simpa using hr'
  have hs' : t[s]?.getD undef = .pointer (some A4) := by simpa using hs
  simp only [results, hr]
  simp [Sem.run_bind, hp', hq', hr2, hs', asAddr, r1, r2, r3, r4, Result.andThen]
theorem load_int {w : World} {g : Nat} {x : Int} (hg : Bl w g #[.int .i64 x] 3) : (loadVar 3 ⟨g, 0, none⟩).run Tryd.prog w = .ok (.int .i64 x) w := by
  have c := hg.cell (i := 0) rfl
  simp [loadVar, isAgg, underlying, Tryd.underlying3, c, Result.andThen]
theorem load_ck {w : World} {g : Nat} {a b : Value} (hg : Bl w g #[a, b] 71) : (loadVar 71 ⟨g, 0, none⟩).run Tryd.prog w = .ok (.agg #[a, b]) w :=
  run_loadVar_row w g 71 71 _ (0, 0) _ hg Tryd.underlying71 rfl (info_ck a b)
/-- what Check leaves -/
def CkQ (w : World) (o : Sum (Int × Nat × Nat) (List Int × List (List Int))) (e : Ending) (w' : World) : Prop := Out 0 0 w w' ∧ ((∃ S Ds sv dv dgs, o = .inr (S, Ds) ∧ e = .returned (.tuple #[.agg #[sv, dv], .int .i64 0, .int .i64 0, .int .i64 0]) ∧ CkAt w' w.heap.size sv dv S Ds dgs) ∨ ∃ (er : Int) (f i : Nat), o = .inl (er, f, i) ∧ e = .returned (.tuple #[.agg #[.slice none 0 0, .slice none 0 0], .int .i64 f, .int .i64 i, .int .i64 er]))
end Go.Proofs.YtkghabmgofgclaaDoor
