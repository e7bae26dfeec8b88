import Derived.Test.YtapjfokkcgdhhaaDoorQaa
import Derived.Test.YtapjfokkcgdhhaaDoorQap
import Derived.Deep.Cut
namespace Go.Proofs.YtapjfokkcgdhhaaDoor
open Go.RowKit
set_option linter.unusedVariables false
set_option linter.unusedSimpArgs false

section
variable {P : Program} {ops : Array Oper} {Q : Exit → Act → World → Prop} {md : Region.Mode} {S : World → Prop} {z : Nat}
/-- whatever order is picked: S holds behind every operation but z -/
def wpAnyT (P : Program) (md : Region.Mode) (ops : Array Oper) (Q : Exit → Act → World → Prop) (S : World → Prop) (z : Nat) : Nat → Array Bool → Act → World → Prop
  | 0, listed, a, w => Region.ready md ops listed = [] ∧ Q .normal a w
  | fuel + 1, listed, a, w =>
    (Region.ready md ops listed = [] → Q .normal a w) ∧
    ∀ i ∈ Region.ready md ops listed, wpOp P ops Q i (fun a' w' => (i ≠ z → S w') ∧ wpAnyT P md ops Q S z fuel (listed.setIfInBounds i true) a' w') a w
theorem wpAny_of_T : ∀ (fuel : Nat) (listed : Array Bool) (a : Act) (w : World), wpAnyT P md ops Q S z fuel listed a w → wpAny P md ops Q fuel listed a w
  | 0, _, _, _, h => h
  | fuel + 1, _, _, _, h => ⟨h.1, fun i hi => wpOp_mono (fun a' w' h' => wpAny_of_T fuel _ a' w' h'.2) (h.2 i hi)⟩
/-- does z wait for i? -/
def waitsFor (md : Region.Mode) (ops : Array Oper) (z i : Nat) : Bool := match ops[z]? with
  | some oz => oz.after.any fun e => Region.binds md e && e.on == i
  | none => false
theorem waits_spec {i : Nat} (h : waitsFor md ops z i = true) : ∃ oz, ops[z]? = some oz ∧ ∃ e ∈ oz.after, Region.binds md e = true ∧ e.on = i := by
  unfold waitsFor at h
  cases hz : ops[z]? with
  | none => rw [hz] at h; cases h
  | some oz =>
    rw [hz] at h
    refine ⟨oz, rfl, ?_⟩
    dsimp only at h
    rw [Array.any_eq_true'] at h
    obtain ⟨e, he, h2⟩ := h
    simp at h2
    exact ⟨e, he, h2.1, h2.2⟩
theorem wpAnyT_first {i : Nat} {oi : Oper} {v : Value} (hi : ops[i]? = some oi) (hsel : ∀ (j : Nat) (o : Oper) cs b, ops[j]? = some o → o.op ≠ .select cs b)
    (hQ : ∀ c a w, Q (.panic c) (a.put oi.dst v) w → Q (.panic c) a w) (hz : ∃ oz, ops[z]? = some oz ∧ ∃ e ∈ oz.after, Region.binds md e = true ∧ e.on = i) :
    ∀ (fuel : Nat) (listed : Array Bool) (a : Act) (w : World),
      (∀ j oj, ops[j]? = some oj → j ≠ i → listed.getD j true = false → (∀ e ∈ oj.after, Region.binds md e = true → e.on ≠ i) → oi.apart ops oj = true) →
      i ∈ Region.ready md ops listed → YieldsIf P ops S oi v a → S w →
      wpAnyT P md ops Q S z fuel (listed.setIfInBounds i true) (a.put oi.dst v) w → wpAnyT P md ops Q S z (fuel + 1) listed a w := by
  intro fuel
  induction fuel with
  | zero =>
    intro listed a w _ hr hy hS H
    refine ⟨fun h => (by rw [h] at hr; cases hr), fun j hj => ?_⟩
    by_cases hji : j = i
    · subst hji; exact hy.wpOp hi hS ⟨fun _ => hS, H⟩
    · have := ready_mono hj hji
      rw [H.1] at this
      cases this
  | succ fuel ih =>
    intro listed a w hfree hr hy hS H
    refine ⟨fun h => (by rw [h] at hr; cases hr), fun j hj => ?_⟩
    by_cases hji : j = i
    · subst hji; exact hy.wpOp hi hS ⟨fun _ => hS, H⟩
    · have h1 := H.2 j (ready_mono hj hji)
      obtain ⟨hjun, oj, hoj, hall⟩ := mem_ready.1 hj
      have hnot : ∀ e ∈ oj.after, Region.binds md e = true → e.on ≠ i := fun e he hb heq => by
        have h1 := hall e he hb
        have h0 := (mem_ready.1 hr).1
        rw [heq] at h1
        rcases Nat.lt_or_ge i listed.size with h' | h'
        · simp [h'] at h0 h1; rw [h0] at h1; cases h1
        · simp [Array.getElem?_eq_none h'] at h1
      have hjz : j ≠ z := by
        intro e
        subst e
        obtain ⟨oz, hoz, e, he, he2, he3⟩ := hz
        rw [hoj] at hoz
        cases hoz
        exact hnot e he he2 he3
      have h2 := wpOp_putIf hoj (hfree j oj hoj hji hjun hnot) (fun cs b => hsel i oi cs b hi) (fun cs b => hsel j oj cs b hoj) hQ hy h1
      have hfree' : ∀ k ok, ops[k]? = some ok → k ≠ i → (listed.setIfInBounds j true).getD k true = false →
          (∀ e ∈ ok.after, Region.binds md e = true → e.on ≠ i) → oi.apart ops ok = true := fun k ok hk hki hun hno => by
        refine hfree k ok hk hki ?_ hno
        by_cases hjk : j = k
        · subst hjk; exact hjun
        · rw [getD_set_ne true hjk] at hun; exact hun
      refine wpOp_mono (fun a' w' h3 => ⟨h3.2.1, ih (listed.setIfInBounds j true) a' w' hfree' (ready_mono hr (Ne.symm hji)) h3.1 (h3.2.1 hjz) ?_⟩) h2
      rw [Array.setIfInBounds_comm _ _ hji]
      exact h3.2.2
theorem wpAnyT_take {i : Nat} {oi : Oper} {v : Value} {fuel : Nat} {listed : Array Bool} {a : Act} {w : World} (hi : ops[i]? = some oi)
    (hs : Region.noSelect ops = true) (hf : Region.free md ops listed i = true) (hr : (Region.ready md ops listed).contains i = true) (hz : waitsFor md ops z i = true)
    (hQ : ∀ c a w, Q (.panic c) (a.put oi.dst v) w → Q (.panic c) a w) (hy : YieldsIf P ops S oi v a) (hS : S w)
    (h : wpAnyT P md ops Q S z fuel (listed.setIfInBounds i true) (a.put oi.dst v) w) : wpAnyT P md ops Q S z (fuel + 1) listed a w :=
  wpAnyT_first hi (Region.noSelect_spec hs) hQ (waits_spec hz) fuel listed a w (Region.free_spec hi hf) (by simpa using hr) hy hS h
theorem tkT (i : Nat) {oi : Oper} {v : Value} {fuel : Nat} {listed l' : Array Bool} {a a' : Act} {w : World}
    (h : wpAnyT P md ops Q S z fuel l' a' w) (hi : ops[i]? = some oi := by exact rfl) (hs : Region.noSelect ops = true := by kernel_rfl) (hf : Region.free md ops listed i = true := by kernel_rfl) (hr : (Region.ready md ops listed).contains i = true := by kernel_rfl) (hz : waitsFor md ops z i = true := by kernel_rfl)
    (hw : Region.wanted oi (yielded ops a.tmps) = true := by rfl)
    (hy : ∀ w, S w → (execOp a.eval oi).run P w = .ok (.value v) w := by intro w hSw; (try dsimp only at hSw); simp only [xa, xb, xc]; go_simp; (try with_reducible rfl))
    (hS : S w := by assumption)
    (hl : listed.setIfInBounds i true = l' := by (try simp only [List.setIfInBounds_toArray, List.set_cons_zero, List.set_cons_succ]); exact rfl)
    (ha : a.put oi.dst v = a' := by (try simp only [Act.put, xa, xb, xc, xd, xe, xf]); exact rfl)
    (hQ : ∀ c a w, Q (.panic c) (a.put oi.dst v) w → Q (.panic c) a w := by exact fun _ _ _ h => h) : wpAnyT P md ops Q S z (fuel + 1) listed a w := by
  subst hl ha
  exact wpAnyT_take hi hs hf hr hz hQ (Or.inl ⟨hw, hy⟩) hS h
/-- one operation alone may come up, and it is not z -/
theorem wpAnyT_one {i : Nat} {o : Oper} {fuel : Nat} {listed : Array Bool} {a : Act} {w : World} (hr : Region.ready md ops listed = [i]) (ho : ops[i]? = some o)
    (h : ∀ K' : Act → World → Prop, Shut (∀ a w, S w → (S w → wpAnyT P md ops Q S z fuel (listed.setIfInBounds i true) a w) → K' a w) → if Region.wanted o (yielded ops a.tmps) = true then Oper.wp P o a w K' Q else K' (a.put o.dst undef) w) : wpAnyT P md ops Q S z (fuel + 1) listed a w := by
  refine ⟨fun h0 => (by rw [hr] at h0; cases h0), fun j hj => ?_⟩
  rw [hr] at hj
  simp at hj
  subst hj
  exact wpOp_step ho (fun K' hK => h K' (fun a w hS hW => hK a w ⟨fun _ => hS, hW hS⟩))
/-- z comes up -/
theorem wpAnyT_last {o : Oper} {fuel : Nat} {listed : Array Bool} {a : Act} {w : World} (hr : Region.ready md ops listed = [z]) (ho : ops[z]? = some o)
    (h : ∀ K' : Act → World → Prop, Shut (∀ a w, wpAnyT P md ops Q S z fuel (listed.setIfInBounds z true) a w → K' a w) → if Region.wanted o (yielded ops a.tmps) = true then Oper.wp P o a w K' Q else K' (a.put o.dst undef) w) : wpAnyT P md ops Q S z (fuel + 1) listed a w := by
  refine ⟨fun h0 => (by rw [hr] at h0; cases h0), fun j hj => ?_⟩
  rw [hr] at hj
  simp at hj
  subst hj
  exact wpOp_step ho (fun K' hK => h K' (fun a w hW => hK a w ⟨fun e => absurd rfl e, hW⟩))
theorem wpAnyT_done {listed : Array Bool} {a : Act} {w : World} (hr : Region.ready md ops listed = []) (h : Q .normal a w) :
    ∀ fuel, wpAnyT P md ops Q S z fuel listed a w
  | 0 => ⟨hr, h⟩
  | _ + 1 => ⟨fun _ => h, by rw [hr]; simp⟩
theorem wp_region_T {id : Nat} {a : Act} {w : World} (hm : P.follows .mixedOrders = true) (hS : S w.drew)
    (h : S w.drew → wpAnyT P .any ops Q S z ops.size (Array.replicate ops.size false) a w.drew) : (Code.region id ops true).wp P Q a w :=
  wp_region_any hm (wpAny_of_T _ _ _ _ (h hS))
end
end Go.Proofs.YtapjfokkcgdhhaaDoor
namespace Go.Proofs.YtapjfokkcgdhhaaDoor
open Go.RowKit
set_option linter.unusedVariables false
set_option linter.unusedSimpArgs false

theorem lt_d {m n : Nat} (h : m < n) : decide ((m : Int) < (n : Int)) = true ∧ decide (m < n) = true := ⟨by simp; omega, by simpa using h⟩
theorem up_W {h K : Nat} (hh : h < K) (hK : K ≤ 1000000) : wrap64 ((h : Int) + 1) = ((h + 1 : Nat) : Int) := by unfold wrap64; omega
theorem up_V {h K : Nat} (hh : h < K) (hK : K ≤ 1000000) : Value.int .i64 (wrap64 ((h : Int) + 1)) = .int .i64 ((h + 1 : Nat) : Int) := by rw [up_W hh hK]
theorem ms_N {k n : Nat} (h : k < n) : n - (intOf (.int .i64 ((k + 1 : Nat) : Int))).toNat < n - (intOf (.int .i64 (k : Int))).toNat := by simp [intOf]; omega
theorem out_fx {Q : Nat → Prop} {w a c : World} (h : Out 0 0 w a) (x : Fx Q a c) (hQ : ∀ k, Q k → w.heap.size ≤ k) : Out 0 0 w c :=
  (Fx.then (S := fun _ => False) (Fx.of_out h) x fun k hk hq => by have := hQ k hq; omega).out fun _ _ q => q
theorem take_1 {α : Type} {l : List α} {i : Nat} {x : α} (h : l[i]? = some x) : l.take (i + 1) = l.take i ++ [x] := by
  rw [List.take_add_one, h]; rfl
theorem app_sr (w : World) {o : Oper} {a : Act} {K : Act → World → Prop} {Q : Exit → Act → World → Prop} (d s : Operand) (t t' : TypeId)
    (ho : o.op = .call { callee := .builtin .append, args := #[d, s], argTypes := #[t, t'] }) (v u : Value) (hd : a.eval d = v) (hs : a.eval s = u) {v' : Value} {w' : World}
    (hr : (Builtin.append_ #[t, t'] o.type #[v, u]).run Tryd.prog w = .ok v' w') (h : K (a.put o.dst v') w') : o.wp Tryd.prog a w K Q := by
  unfold Oper.wp execOp
  simp only [ho, resolve, invoke, builtin, Sem.run_bind, Sem.run_pure, Result.andThen_ok, List.map_toArray, List.map_cons, List.map_nil, hd, hs, hr]
  exact h
section
variable {T E : TypeId} {z : Value} {sz by_ : Nat}
/-- a copy in a row of its own -/
theorem cp_at (hT : Tryd.prog.underlying T = some (.slice E)) (hinf : (Tryd.prog.info? E).map (fun i => (i.zero, i.size, i.bytes)) = some (some z, sz, by_)) (hz : z.cells.size = sz) (hsz : 0 < sz) (hby : by_ ≤ 1000) {w : World} {m c : Nat} {sa : Option Addr} {ys : List Value} (hv : m = 0 ∨ ∃ vb off, sa = some ⟨vb, off, none⟩ ∧ ∀ (j : Nat) u, ys[j]? = some u → w.cell? ⟨vb, off + j, none⟩ = some u) (hl : ys.length = m * sz) (h1 : ∀ u ∈ ys, u.oneCell' = true) (hm2 : m ≤ 2000000) (ty : TypeId) :
    ∃ a' cap' w', (Builtin.append_ #[T, T] ty #[.slice none 0 0, .slice sa m c]).run Tryd.prog w = .ok (.slice a' m cap') w' ∧ w'.ownsRow w.heap.size E sz (.slice a' m cap') m ys ∧ Out 0 0 w w' := by
  obtain ⟨a', cap', w', q1, q2, q3, q4⟩ := app_at hT hinf hz hsz hby (c := c) (World.ownsRow_nil w w.heap.size E sz) (Nat.le_refl _) hv hl h1 (by omega) hm2 ty
  rw [Nat.zero_add] at q1 q2
  exact ⟨a', cap', w', q1, q2, q3.out fun k _ q => by cases q⟩
/-- marks behind it -/
theorem mk_at (hT : Tryd.prog.underlying T = some (.slice E)) (hinf : (Tryd.prog.info? E).map (fun i => (i.zero, i.size, i.bytes)) = some (some z, sz, by_)) (hz : z.cells.size = sz) (hsz : 0 < sz) (hby : by_ ≤ 1000) {w : World} {base K cap m c p : Nat} {ta : Option Addr} {xs zs : List Value} (hown : w.ownsRow base E sz (.slice ta K cap) K xs) (hbase : base ≤ w.heap.size) (hp : Bl w p zs.toArray E) (hl : zs.length = m * sz) (h1 : ∀ u ∈ zs, u.oneCell' = true) (hK : K ≤ 2000000) (hm : 0 < m) (hm2 : m ≤ 2000000) (ty : TypeId) :
    ∃ g cap' w', (Builtin.append_ #[T, T] ty #[.slice ta K cap, .slice (some ⟨p, 0, none⟩) m c]).run Tryd.prog w = .ok (.slice (some ⟨g, 0, none⟩) (K + m) cap') w' ∧ w'.ownsRow base E sz (.slice (some ⟨g, 0, none⟩) (K + m) cap') (K + m) (xs ++ zs) ∧ Fx (fun k => (Value.slice ta K cap).ownBlock = some k) w w' := by
  obtain ⟨a', cap', w', q1, q2, q3, q4⟩ := app_at hT hinf hz hsz hby (c := c) hown hbase (bl_src hp m) hl h1 hK hm2 ty
  obtain ⟨g, cap2, h, _⟩ := q2.form (by omega)
  cases h
  exact ⟨g, cap', w', q1, q2, q3⟩
end
/-- the three blocks of lent -/
def L3 (wr : World) (b : Nat) (pc qc : Array Value) : Prop := Bl wr b pc 35 ∧ Bl wr (b + 1) #[.int .i64 0, .slice none 0 0, .slice none 0 0] 35 ∧ Bl wr (b + 1 + 1) qc 35
theorem L3.fx {Q : Nat → Prop} {w w' : World} {b : Nat} {pc qc : Array Value} (h : L3 w b pc qc) (x : Fx Q w w') (hQ : ∀ k, k ≤ b + 2 → ¬ Q k) : L3 w' b pc qc := ⟨h.1.fx x (hQ _ (by omega)), h.2.1.fx x (hQ _ (by omega)), h.2.2.fx x (hQ _ (by omega))⟩
theorem L3.quiet {w w' : World} {b : Nat} {pc qc : Array Value} (h : L3 w b pc qc) (o : Out 0 0 w w') : L3 w' b pc qc := h.fx (Q := fun _ => False) (Fx.of_out o) fun _ _ q => q
theorem L3.set {w : World} {b i : Nat} {pc qc : Array Value} (h : L3 w b pc qc) (v : Value) : L3 (w.setCell ⟨b + 1 + 1, i, none⟩ v) b pc (qc.setIfInBounds i v) :=
  ⟨h.1.other (q := ⟨b + 1 + 1, i, none⟩) (by show b + 1 + 1 ≠ b; omega) v, h.2.1.other (q := ⟨b + 1 + 1, i, none⟩) (by show b + 1 + 1 ≠ b + 1; omega) v, h.2.2.set i v⟩
/-- what the lending has done: i texts, j functions -/
def LS (w wr : World) (b : Nat) (pc : Array Value) (x : Int) (mt : List Int) (mc : List (Int × Int)) (ts : List (List Int)) (fs : List (Int × Int × Int × List (Int × Int))) (i : Nat) (xa : Option Addr) (xc : Nat) (vs : List Value) (j : Nat) (ya : Option Addr) (yc : Nat) (cs : List Value) : Prop :=
  L3 wr b pc #[.int .i64 x, .slice xa i xc, .slice ya j yc] ∧ wr.ownsRow (b + 3) 22 1 (.slice xa i xc) i vs ∧ TL wr (b + 3) mt vs (ts.take i) ∧ wr.ownsRow (b + 3) 40 4 (.slice ya j yc) j (fcl (fs.take j) cs) ∧ CL wr (b + 3) mc cs (fs.take j) ∧ Out 0 0 w wr ∧ w.heap.size = b
section
variable {w wr : World} {b : Nat} {pc : Array Value} {x : Int} {mt : List Int} {mc : List (Int × Int)} {ts : List (List Int)} {fs : List (Int × Int × Int × List (Int × Int))} {i : Nat} {xa : Option Addr} {xc : Nat} {vs : List Value} {j : Nat} {ya : Option Addr} {yc : Nat} {cs : List Value}
theorem LS.quiet {w2 : World} (h : LS w wr b pc x mt mc ts fs i xa xc vs j ya yc cs) (o : Out 0 0 wr w2) : LS w w2 b pc x mt mc ts fs i xa xc vs j ya yc cs :=
  ⟨h.1.quiet o, own_fx (S := fun _ => False) h.2.1 (Fx.of_out o) (fun _ _ q => q), h.2.2.1.quiet o, own_fx (S := fun _ => False) h.2.2.2.1 (Fx.of_out o) (fun _ _ q => q), h.2.2.2.2.1.quiet o, h.2.2.2.2.2.1.trans o, h.2.2.2.2.2.2⟩
theorem LS.size (h : LS w wr b pc x mt mc ts fs i xa xc vs j ya yc cs) : b + 3 ≤ wr.heap.size := by have := h.1.2.2.lt; omega
/-- a text more -/
theorem LS.stepT {w6 : World} {t : List Int} {v : Value} {a' : Option Addr} {cap' : Nat} (h : LS w wr b pc x mt mc ts fs i xa xc vs j ya yc cs) (ht : ts[i]? = some t) (hv : TxL wr (b + 3) mt v t) (q1 : w6.ownsRow (b + 3) 22 1 (.slice a' (i + 1) cap') (i + 1) (vs ++ [v])) (q2 : Fx (fun k => (Value.slice xa i xc).ownBlock = some k) wr w6) :
    LS w (w6.setCell ⟨b + 1 + 1, 1, none⟩ (.slice a' (i + 1) cap')) b pc x mt mc ts fs (i + 1) a' cap' (vs ++ [v]) j ya yc cs := by
  obtain ⟨h1, h2, h3, h4, h5, h6, h7⟩ := h
  have hs : Fx (fun k => k = b + 2) w6 (w6.setCell ⟨b + 1 + 1, 1, none⟩ (.slice a' (i + 1) cap')) := (Fx.refl (fun k => k = b + 2) _).set (p := ⟨b + 1 + 1, 1, none⟩) (.inl rfl) _
  have hlo : ∀ k, (Value.slice xa i xc).ownBlock = some k → b + 3 ≤ k := fun k hk => (own_ge h2 hk).1
  have g4 := own_fx h4 q2 (fun k hk => own_apart h4 h2 (by decide) hk)
  have gT := (h3.up hv).fx q2 (fun j' v' t' k z1 z2 z3 => ((h3.up hv).2 j' v' t' z1 z2).other h2 (by decide) z3)
  have gC := h5.fx q2 (fun j' v' t' k z1 z2 z3 => (h5.2.1 j' v' t' z1 z2).other h2 (by decide) z3)
  refine ⟨(h1.fx q2 (fun k hk e => by have := hlo k e; omega)).set _, own_fx q1 hs (fun k hk e => by have := (own_ge q1 hk).1; omega), ?_, own_fx g4 hs (fun k hk e => by have := (own_ge g4 hk).1; omega), gC.fx hs (fun j' v' t' k z1 z2 z3 e => by have := ((gC.2.1 j' v' t' z1 z2).ob z3).1; omega), out_fx (out_fx h6 q2 (fun k hk => by have := hlo k hk; omega)) hs (fun k hk => by omega), h7⟩
  rw [take_1 ht]
  exact gT.fx hs (fun j' v' t' k z1 z2 z3 e => by have := ((gT.2 j' v' t' z1 z2).ob z3).1; omega)
/-- a function more -/
theorem LS.stepF {w6 : World} {f : Int × Int × Int × List (Int × Int)} {v : Value} {a' : Option Addr} {cap' N : Nat} (h : LS w wr b pc x mt mc ts fs i xa xc vs j ya yc cs) (hf : fs[j]? = some f) (hv : CdL wr (b + 3) mc v f.2.2.2) (hN : ∀ (j : Nat) a k, cs[j]? = some a → a.ownBlock = some k → k < N) (hn : ∀ k, v.ownBlock = some k → N ≤ k) (q1 : w6.ownsRow (b + 3) 40 4 (.slice a' (j + 1) cap') (j + 1) (fcl (fs.take j) cs ++ [.int .i64 f.1, .int .i64 f.2.1, .int .i64 f.2.2.1, v])) (q2 : Fx (fun k => (Value.slice ya j yc).ownBlock = some k) wr w6) :
    LS w (w6.setCell ⟨b + 1 + 1, 2, none⟩ (.slice a' (j + 1) cap')) b pc x mt mc ts fs i xa xc vs (j + 1) a' cap' (cs ++ [v]) := by
  obtain ⟨h1, h2, h3, h4, h5, h6, h7⟩ := h
  have hs : Fx (fun k => k = b + 2) w6 (w6.setCell ⟨b + 1 + 1, 2, none⟩ (.slice a' (j + 1) cap')) := (Fx.refl (fun k => k = b + 2) _).set (p := ⟨b + 1 + 1, 2, none⟩) (.inl rfl) _
  have hlo : ∀ k, (Value.slice ya j yc).ownBlock = some k → b + 3 ≤ k := fun k hk => (own_ge h4 hk).1
  have g2 := own_fx h2 q2 (fun k hk => own_apart h2 h4 (by decide) hk)
  have gT := h3.fx q2 (fun j' v' t' k z1 z2 z3 => (h3.2 j' v' t' z1 z2).other h4 (by decide) z3)
  have gC := (h5.up (f := f) hv hN hn).fx q2 (fun j' v' t' k z1 z2 z3 => ((h5.up (f := f) hv hN hn).2.1 j' v' t' z1 z2).other h4 (by decide) z3)
  refine ⟨(h1.fx q2 (fun k hk e => by have := hlo k e; omega)).set _, own_fx g2 hs (fun k hk e => by have := (own_ge g2 hk).1; omega), gT.fx hs (fun j' v' t' k z1 z2 z3 e => by have := ((gT.2 j' v' t' z1 z2).ob z3).1; omega), ?_, ?_, out_fx (out_fx h6 q2 (fun k hk => by have := hlo k hk; omega)) hs (fun k hk => by omega), h7⟩
  · rw [take_1 hf, fcl_up _ _ h5.1]
    exact own_fx q1 hs (fun k hk e => by have := (own_ge q1 hk).1; omega)
  · rw [take_1 hf]
    exact gC.fx hs (fun j' v' t' k z1 z2 z3 e => by have := ((gC.2.1 j' v' t' z1 z2).ob z3).1; omega)
end
theorem tx_cellX {w : World} {B : Nat} {p : Option Addr} {ts : List (List Int)} (h : TxIn w B p ts) {i : Nat} {t : List Int} (ht : ts[i]? = some t) : ∃ g off pj cj, p = some ⟨g, off, none⟩ ∧ g < B ∧ w.cell? ⟨g, off + i, none⟩ = some (.slice pj t.length cj) ∧ ByIn w B pj t := by
  rcases h with rfl | ⟨g, off, rfl, hg, hc⟩
  · simp at ht
  · obtain ⟨pj, cj, c1, c2⟩ := hc i t ht
    exact ⟨g, off, pj, cj, rfl, hg, c1, c2⟩
theorem fn_cell {w : World} {B : Nat} {p : Option Addr} {fs : List (Int × Int × Int × List (Int × Int))} (h : FnIn w B p fs) {j : Nat} {f : Int × Int × Int × List (Int × Int)} (hf : fs[j]? = some f) : ∃ g off pj cj, p = some ⟨g, off, none⟩ ∧ g < B ∧ w.cell? ⟨g, off + j * 4, none⟩ = some (.int .i64 f.1) ∧ w.cell? ⟨g, off + j * 4 + 1, none⟩ = some (.int .i64 f.2.1) ∧ w.cell? ⟨g, off + j * 4 + 2, none⟩ = some (.int .i64 f.2.2.1) ∧ w.cell? ⟨g, off + j * 4 + 3, none⟩ = some (.slice pj f.2.2.2.length cj) ∧ InIn w B pj f.2.2.2 := by
  rcases h with rfl | ⟨g, off, rfl, hg, hc⟩
  · simp at hf
  · obtain ⟨pj, cj, c1, c2, c3, c4, c5⟩ := hc j f hf
    exact ⟨g, off, pj, cj, rfl, hg, c1, c2, c3, c4, c5⟩
end Go.Proofs.YtapjfokkcgdhhaaDoor
namespace Go.Proofs.YtapjfokkcgdhhaaDoor
open Go.RowKit
set_option linter.unusedVariables false
set_option linter.unusedSimpArgs false

/-- the mark behind the texts: a constant's bytes -/
def MkL (w : World) (lo : Nat) (v : Value) : Prop := ∃ g, v = .slice (some ⟨g, 0, none⟩) 4 4 ∧ lo ≤ g ∧ w.heap[g]? = some (.cells #[.int .u8 109, .int .u8 97, .int .u8 114, .int .u8 107] 5 (4, 5))
theorem MkL.fx {Q : Nat → Prop} {w w' : World} {lo : Nat} {v : Value} (h : MkL w lo v) (x : Fx Q w w') (hQ : ∀ k, v.ownBlock = some k → ¬ Q k) : MkL w' lo v := by
  obtain ⟨g, rfl, h1, h2⟩ := h
  exact ⟨g, rfl, h1, x.heap h2 (hQ g rfl)⟩
theorem MkL.ob {w : World} {lo : Nat} {v : Value} (h : MkL w lo v) {k : Nat} (hk : v.ownBlock = some k) : lo ≤ k ∧ k < w.heap.size := by
  obtain ⟨g, rfl, h1, h2⟩ := h
  cases hk
  exact ⟨h1, heap_lt h2⟩
theorem MkL.other {w : World} {lo b2 s2 n' : Nat} {v v' : Value} {E : TypeId} {xs : List Value} (h : MkL w lo v) (h' : w.ownsRow b2 E s2 v' n' xs) {k : Nat} (hk : v.ownBlock = some k) : v'.ownBlock ≠ some k := by
  obtain ⟨g, rfl, h1, h2⟩ := h
  cases hk
  intro hk'
  rcases h'.2 with ⟨rfl, _⟩ | ⟨g', c', cur', rfl, _, h3', _⟩
  · cases hk'
  · cases hk'
    rw [h2] at h3'
    cases h3'
theorem MkL.low {w : World} {lo l2 : Nat} {v : Value} (h : MkL w lo v) (hl : l2 ≤ lo) : MkL w l2 v := by
  obtain ⟨g, rfl, h1, h2⟩ := h
  exact ⟨g, rfl, Nat.le_trans hl h1, h2⟩
/-- a program that was lent -/
def LnAt (w : World) (lo gt ct gf cf : Nat) (vs : List Value) (mv : Value) (cs : List Value) (ts : List (List Int)) (fs : List (Int × Int × Int × List (Int × Int))) : Prop :=
  w.ownsRow lo 22 1 (.slice (some ⟨gt, 0, none⟩) (ts.length + 1) ct) (ts.length + 1) (vs ++ [mv]) ∧ TL w lo [7, 8] vs ts ∧ MkL w lo mv ∧
  w.ownsRow lo 40 4 (.slice (some ⟨gf, 0, none⟩) (fs.length + 1) cf) (fs.length + 1) (fcl fs cs ++ [.int .i64 (-7), .int .i64 0, .int .i64 0, .slice none 0 0]) ∧ CL w lo [(-7, 0)] cs fs
def LnQ (w : World) (x : Int) (ts : List (List Int)) (fs : List (Int × Int × Int × List (Int × Int))) (e : Ending) (w' : World) : Prop := Out 0 0 w w' ∧ ∃ gt ct gf cf vs mv cs, e = .returned (.agg #[.int .i64 x, .slice (some ⟨gt, 0, none⟩) ts.length ct, .slice (some ⟨gf, 0, none⟩) fs.length cf]) ∧ LnAt w' w.heap.size gt ct gf cf vs mv cs ts fs
theorem und_bs : Tryd.prog.underlying 22 = some (.slice (Tryd.prog.elem 22)) := by kernel_rfl
theorem elem_bs : Tryd.prog.elem 22 = 5 := by kernel_rfl
theorem und_is : Tryd.prog.underlying 38 = some (.slice (Tryd.prog.elem 38)) := by kernel_rfl
theorem elem_is : Tryd.prog.elem 38 = 61 := by kernel_rfl
theorem und_bss : Tryd.prog.underlying 25 = some (.slice (Tryd.prog.elem 25)) := by kernel_rfl
theorem elem_bss : Tryd.prog.elem 25 = 22 := by kernel_rfl
theorem und_fss : Tryd.prog.underlying 33 = some (.slice (Tryd.prog.elem 33)) := by kernel_rfl
theorem elem_fss : Tryd.prog.elem 33 = 40 := by kernel_rfl
theorem TxL.low {w : World} {lo l2 : Nat} {mk t : List Int} {v : Value} (h : TxL w lo mk v t) (hl : l2 ≤ lo) : TxL w l2 mk v t := by
  obtain ⟨h1, a, c, rfl, h2⟩ := h
  exact ⟨h1, a, c, rfl, Go.Joins.ownsRow_le h2 hl⟩
theorem CdL.low {w : World} {lo l2 : Nat} {mk t : List (Int × Int)} {v : Value} (h : CdL w lo mk v t) (hl : l2 ≤ lo) : CdL w l2 mk v t := by
  obtain ⟨a, c, rfl, h2⟩ := h
  exact ⟨a, c, rfl, Go.Joins.ownsRow_le h2 hl⟩
theorem TL.low {w : World} {lo l2 : Nat} {mk : List Int} {vs : List Value} {ts : List (List Int)} (h : TL w lo mk vs ts) (hl : l2 ≤ lo) : TL w l2 mk vs ts := ⟨h.1, fun j v t a b => (h.2 j v t a b).low hl⟩
theorem CL.low {w : World} {lo l2 : Nat} {mk : List (Int × Int)} {cs : List Value} {fs : List (Int × Int × Int × List (Int × Int))} (h : CL w lo mk cs fs) (hl : l2 ≤ lo) : CL w l2 mk cs fs := ⟨h.1, fun j v t a b => (h.2.1 j v t a b).low hl, h.2.2⟩
section
variable {w : World} {lo gt ct gf cf : Nat} {vs : List Value} {mv : Value} {cs : List Value} {ts : List (List Int)} {fs : List (Int × Int × Int × List (Int × Int))}
theorem LnAt.low {l2 : Nat} (h : LnAt w lo gt ct gf cf vs mv cs ts fs) (hl : l2 ≤ lo) : LnAt w l2 gt ct gf cf vs mv cs ts fs := ⟨Go.Joins.ownsRow_le h.1 hl, h.2.1.low hl, h.2.2.1.low hl, Go.Joins.ownsRow_le h.2.2.2.1 hl, h.2.2.2.2.low hl⟩
theorem LnAt.fx {Q : Nat → Prop} {w2 : World} (h : LnAt w lo gt ct gf cf vs mv cs ts fs) (x : Fx Q w w2) (hQ : ∀ k, lo ≤ k → k < w.heap.size → ¬ Q k) : LnAt w2 lo gt ct gf cf vs mv cs ts fs :=
  ⟨own_fx h.1 x (fun k hk => hQ k (own_ge h.1 hk).1 (own_ge h.1 hk).2), h.2.1.fx x (fun j v t k z1 z2 z3 => hQ k ((h.2.1.2 j v t z1 z2).ob z3).1 ((h.2.1.2 j v t z1 z2).ob z3).2), h.2.2.1.fx x (fun k hk => hQ k (h.2.2.1.ob hk).1 (h.2.2.1.ob hk).2), own_fx h.2.2.2.1 x (fun k hk => hQ k (own_ge h.2.2.2.1 hk).1 (own_ge h.2.2.2.1 hk).2), h.2.2.2.2.fx x (fun j v t k z1 z2 z3 => hQ k ((h.2.2.2.2.2.1 j v t z1 z2).ob z3).1 ((h.2.2.2.2.2.1 j v t z1 z2).ob z3).2)⟩
theorem LnAt.quiet {w2 : World} (h : LnAt w lo gt ct gf cf vs mv cs ts fs) (o : Out 0 0 w w2) : LnAt w2 lo gt ct gf cf vs mv cs ts fs := h.fx (Q := fun _ => False) (Fx.of_out o) fun _ _ _ q => q
theorem LnAt.tx (h : LnAt w lo gt ct gf cf vs mv cs ts fs) : TxIn w w.heap.size (some ⟨gt, 0, none⟩) ts := h.2.1.tx h.1
theorem LnAt.fn (h : LnAt w lo gt ct gf cf vs mv cs ts fs) : FnIn w w.heap.size (some ⟨gf, 0, none⟩) fs := h.2.2.2.2.fn h.2.2.2.1
end
/-- what the lending has done when the texts have their mark -/
def LM (w wr : World) (b : Nat) (pc : Array Value) (x : Int) (ts : List (List Int)) (fs : List (Int × Int × Int × List (Int × Int))) (gt ct : Nat) (vs : List Value) (mv : Value) (ra : Option Addr) (rk : Nat) (cs : List Value) : Prop :=
  L3 wr b pc #[.int .i64 x, .slice (some ⟨gt, 0, none⟩) ts.length ct, .slice ra fs.length rk] ∧ wr.ownsRow (b + 3) 22 1 (.slice (some ⟨gt, 0, none⟩) (ts.length + 1) ct) (ts.length + 1) (vs ++ [mv]) ∧ TL wr (b + 3) [7, 8] vs ts ∧ MkL wr (b + 3) mv ∧ wr.ownsRow (b + 3) 40 4 (.slice ra fs.length rk) fs.length (fcl fs cs) ∧ CL wr (b + 3) [(-7, 0)] cs fs ∧ Out 0 0 w wr ∧ w.heap.size = b
section
variable {w wr : World} {b : Nat} {pc : Array Value} {x : Int} {ts : List (List Int)} {fs : List (Int × Int × Int × List (Int × Int))} {qa : Option Addr} {qk : Nat} {vs : List Value} {ra : Option Addr} {rk : Nat} {cs : List Value} {gt ct : Nat} {mv : Value}
theorem LS.mark {w6 : World} (h : LS w wr b pc x [7, 8] [(-7, 0)] ts fs ts.length qa qk vs fs.length ra rk cs) (hv : MkL wr (b + 3) mv) (q1 : w6.ownsRow (b + 3) 22 1 (.slice (some ⟨gt, 0, none⟩) (ts.length + 1) ct) (ts.length + 1) (vs ++ [mv])) (q2 : Fx (fun k => (Value.slice qa ts.length qk).ownBlock = some k) wr w6) :
    LM w (w6.setCell ⟨b + 1 + 1, 1, none⟩ (.slice (some ⟨gt, 0, none⟩) ts.length ct)) b pc x ts fs gt ct vs mv ra rk cs := by
  obtain ⟨h1, h2, h3, h4, h5, h6, h7⟩ := h
  rw [List.take_length] at h3 h4 h5
  have hs : Fx (fun k => k = b + 2) w6 (w6.setCell ⟨b + 1 + 1, 1, none⟩ (.slice (some ⟨gt, 0, none⟩) ts.length ct)) := (Fx.refl (fun k => k = b + 2) _).set (p := ⟨b + 1 + 1, 1, none⟩) (.inl rfl) _
  have hlo : ∀ k, (Value.slice qa ts.length qk).ownBlock = some k → b + 3 ≤ k := fun k hk => (own_ge h2 hk).1
  have g4 := own_fx h4 q2 (fun k hk => own_apart h4 h2 (by decide) hk)
  have gT := h3.fx q2 (fun j' v' t' k z1 z2 z3 => (h3.2 j' v' t' z1 z2).other h2 (by decide) z3)
  have gV := hv.fx q2 (fun k z3 => hv.other h2 z3)
  have gC := h5.fx q2 (fun j' v' t' k z1 z2 z3 => (h5.2.1 j' v' t' z1 z2).other h2 (by decide) z3)
  exact ⟨(h1.fx q2 (fun k hk e => by have := hlo k e; omega)).set _, own_fx q1 hs (fun k hk e => by have := (own_ge q1 hk).1; omega), gT.fx hs (fun j' v' t' k z1 z2 z3 e => by have := ((gT.2 j' v' t' z1 z2).ob z3).1; omega), gV.fx hs (fun k z3 e => by have := (gV.ob z3).1; omega), own_fx g4 hs (fun k hk e => by have := (own_ge g4 hk).1; omega), gC.fx hs (fun j' v' t' k z1 z2 z3 e => by have := ((gC.2.1 j' v' t' z1 z2).ob z3).1; omega), out_fx (out_fx h6 q2 (fun k hk => by have := hlo k hk; omega)) hs (fun k hk => by omega), h7⟩
theorem LM.quiet {w2 : World} (h : LM w wr b pc x ts fs gt ct vs mv ra rk cs) (o : Out 0 0 wr w2) : LM w w2 b pc x ts fs gt ct vs mv ra rk cs :=
  ⟨h.1.quiet o, own_fx (S := fun _ => False) h.2.1 (Fx.of_out o) (fun _ _ q => q), h.2.2.1.quiet o, h.2.2.2.1.fx (Q := fun _ => False) (Fx.of_out o) (fun _ _ q => q), own_fx (S := fun _ => False) h.2.2.2.2.1 (Fx.of_out o) (fun _ _ q => q), h.2.2.2.2.2.1.quiet o, h.2.2.2.2.2.2.1.trans o, h.2.2.2.2.2.2.2⟩
theorem LM.size (h : LM w wr b pc x ts fs gt ct vs mv ra rk cs) : b + 3 ≤ wr.heap.size := by have := h.1.2.2.lt; omega
theorem LM.done {w6 : World} {gf cf : Nat} (h : LM w wr b pc x ts fs gt ct vs mv ra rk cs) (q1 : w6.ownsRow (b + 3) 40 4 (.slice (some ⟨gf, 0, none⟩) (fs.length + 1) cf) (fs.length + 1) (fcl fs cs ++ [.int .i64 (-7), .int .i64 0, .int .i64 0, .slice none 0 0])) (q2 : Fx (fun k => (Value.slice ra fs.length rk).ownBlock = some k) wr w6) :
    L3 (w6.setCell ⟨b + 1 + 1, 2, none⟩ (.slice (some ⟨gf, 0, none⟩) fs.length cf)) b pc #[.int .i64 x, .slice (some ⟨gt, 0, none⟩) ts.length ct, .slice (some ⟨gf, 0, none⟩) fs.length cf] ∧ LnAt (w6.setCell ⟨b + 1 + 1, 2, none⟩ (.slice (some ⟨gf, 0, none⟩) fs.length cf)) (b + 3) gt ct gf cf vs mv cs ts fs ∧ Out 0 0 w (w6.setCell ⟨b + 1 + 1, 2, none⟩ (.slice (some ⟨gf, 0, none⟩) fs.length cf)) ∧ w.heap.size = b := by
  obtain ⟨h1, h2, h3, hv, h4, h5, h6, h7⟩ := h
  have hs : Fx (fun k => k = b + 2) w6 (w6.setCell ⟨b + 1 + 1, 2, none⟩ (.slice (some ⟨gf, 0, none⟩) fs.length cf)) := (Fx.refl (fun k => k = b + 2) _).set (p := ⟨b + 1 + 1, 2, none⟩) (.inl rfl) _
  have hlo : ∀ k, (Value.slice ra fs.length rk).ownBlock = some k → b + 3 ≤ k := fun k hk => (own_ge h4 hk).1
  have g2 := own_fx h2 q2 (fun k hk => own_apart h2 h4 (by decide) hk)
  have gT := h3.fx q2 (fun j' v' t' k z1 z2 z3 => (h3.2 j' v' t' z1 z2).other h4 (by decide) z3)
  have gV := hv.fx q2 (fun k z3 => hv.other h4 z3)
  have gC := h5.fx q2 (fun j' v' t' k z1 z2 z3 => (h5.2.1 j' v' t' z1 z2).other h4 (by decide) z3)
  have hL : LnAt w6 (b + 3) gt ct gf cf vs mv cs ts fs := ⟨g2, gT, gV, q1, gC⟩
  exact ⟨(h1.fx q2 (fun k hk e => by have := hlo k e; omega)).set _, hL.fx hs (fun k z1 z2 e => by omega), out_fx (out_fx h6 q2 (fun k hk => by have := hlo k hk; omega)) hs (fun k hk => by omega), h7⟩
end
end Go.Proofs.YtapjfokkcgdhhaaDoor
namespace Go.Proofs.YtapjfokkcgdhhaaDoor
open Go.RowKit
set_option linter.unusedVariables false
set_option linter.unusedSimpArgs false

/-- the mark of the i-th row -/
def mkV (i : Nat) : Int := 1 + (i % 250 : Nat)
theorem mkV_b (i : Nat) : 0 ≤ mkV i ∧ mkV i ≤ 255 := by unfold mkV; omega
theorem mk_rem {i : Nat} : Int.tmod (i : Int) 250 = ((i % 250 : Nat) : Int) := by
  rw [Int.tmod_eq_emod_of_nonneg (by omega)]; omega
theorem mk_w1 (r : Nat) (h : r < 250) : wrap64 (1 + (r : Int)) = 1 + (r : Int) := by unfold wrap64; omega
theorem mk_w2 (r : Nat) (h : r < 250) : IntKind.u8.wrap (1 + (r : Int)) = 1 + (r : Int) := by
  simp [IntKind.wrap, IntKind.signed, IntKind.bits]; omega
set_option maxRecDepth 100000 in
theorem mark_any (w : World) (i : Nat) (hi : i ≤ 1000000) : Calls Tryd.prog 33 #[.int .i64 (i : Int)] w fun e w' => e = .returned (.int .u8 (mkV i)) ∧ w' = w := by
  have h1 := mk_rem (i := i)
  obtain ⟨r, hr⟩ : ∃ r, i % 250 = r := ⟨_, rfl⟩
  have hr2 : r < 250 := by omega
  have hm : mkV i = 1 + (r : Int) := by unfold mkV; rw [hr]
  rw [hr] at h1
  have h2 := mk_w1 r hr2
  have h3 := mk_w2 r hr2
  rw [hm]
  clear hr hr2 hm
  go_enter Tryd.func33, Tryd.ntmps33
  go_wp2
  go_ret
  exact ⟨rfl, rfl⟩
def grV (g : Nat) : Nat := if g < 17 then g else 90
set_option maxRecDepth 100000 in
theorem grows_any (w : World) (g : Nat) : Calls Tryd.prog 34 #[.int .i64 (g : Int)] w fun e w' => e = .returned (.int .i64 (grV g : Nat)) ∧ w' = w := by
  by_cases h : g < 17
  · have h1 : decide ((g : Int) < 17) = true := by simp; omega
    have h2 : grV g = g := if_pos h
    rw [h2]
    clear h h2
    go_enter Tryd.func34, Tryd.ntmps34
    go_wp2
    go_ret
    exact ⟨rfl, rfl⟩
  · have h1 : decide ((g : Int) < 17) = false := by simp; omega
    have h2 : grV g = 90 := if_neg h
    rw [h2]
    clear h h2
    go_enter Tryd.func34, Tryd.ntmps34
    go_wp2
    go_ret
    exact ⟨rfl, rfl⟩
end Go.Proofs.YtapjfokkcgdhhaaDoor
namespace Go.Proofs.YtapjfokkcgdhhaaDoor
open Go.RowKit
set_option linter.unusedVariables false
set_option linter.unusedSimpArgs false

theorem set_same {α : Type} {l : List α} {i : Nat} {x : α} (h : l[i]? = some x) : l.set i x = l := by
  obtain ⟨h1, rfl⟩ := List.getElem?_eq_some_iff.1 h
  exact List.set_getElem_self h1
theorem txl_nil {w : World} {lo : Nat} {v : Value} {t : List Int} : TxL w lo [] v t ↔ Byt t ∧ ∃ a c, v = .slice a t.length c ∧ w.ownsRow lo 5 1 (.slice a t.length c) t.length (bvs t) := by
  unfold TxL
  simp only [List.append_nil, List.length_nil, Nat.add_zero]
/-- rows of bytes of one's own, side by side, in a list of one's own -/
def RW (w : World) (lo : Nat) (ra : Option Addr) (n rk : Nat) (vs : List Value) (L : List (List Int)) : Prop := w.ownsRow lo 22 1 (.slice ra n rk) n vs ∧ TL w lo [] vs L ∧ Ap vs
/-- the blocks of these rows -/
def RB (vs : List Value) (k : Nat) : Prop := ∃ (j : Nat) (v : Value), vs[j]? = some v ∧ v.ownBlock = some k
section
variable {w w' : World} {lo n rk : Nat} {ra : Option Addr} {vs : List Value} {L : List (List Int)} {i : Nat} {v : Value} {l : List Int}
theorem RW.len (h : RW w lo ra n rk vs L) : vs.length = n ∧ L.length = n := by
  have h1 := h.1.1
  have h2 := h.2.1.1
  omega
theorem RW.quiet (h : RW w lo ra n rk vs L) (o : Out 0 0 w w') : RW w' lo ra n rk vs L := ⟨own_fx (S := fun _ => False) h.1 (Fx.of_out o) (fun _ _ q => q), h.2.1.quiet o, h.2.2⟩
/-- one row has another content -/
theorem RW.step {l' : List Int} (h : RW w lo ra n rk vs L) (hv : vs[i]? = some v) (hl : L[i]? = some l) (hT : TxL w' lo [] v l') (x : Fx (fun k => v.ownBlock = some k) w w') : RW w' lo ra n rk vs (L.set i l') := by
  obtain ⟨h1, h2, h3⟩ := h
  have hTi := h2.2 i v l hv hl
  refine ⟨own_fx h1 x (fun k hk e => hTi.other h1 (by decide) e hk), ⟨by rw [List.length_set]; exact h2.1, fun j u t q1 q2 => ?_⟩, h3⟩
  by_cases hj : i = j
  · subst hj
    rw [List.getElem?_set_self (List.getElem?_eq_some_iff.1 hl).1] at q2
    cases q2
    rw [hv] at q1
    cases q1
    exact hT
  · rw [List.getElem?_set_ne hj] at q2
    exact (h2.2 j u t q1 q2).fx x (fun k hk e => h3 i j v u k hj hv q1 e hk)
theorem RW.same (h : RW w lo ra n rk vs L) (hv : vs[i]? = some v) (hl : L[i]? = some l) (hT : TxL w' lo [] v l) (x : Fx (fun k => v.ownBlock = some k) w w') : RW w' lo ra n rk vs L := by
  have := h.step hv hl hT x
  rwa [set_same hl] at this
/-- a byte of a row is written -/
theorem RW.put {g c j : Nat} {y : Int} (h : RW w lo ra n rk vs L) (hv : vs[i]? = some (.slice (some ⟨g, 0, none⟩) l.length c)) (hl : L[i]? = some l) (hy : 0 ≤ y ∧ y ≤ 255) : RW (w.setCell ⟨g, j, none⟩ (.int .u8 y)) lo ra n rk vs (L.set i (l.set j y)) := by
  obtain ⟨h1, a, c', q1, q2⟩ := txl_nil.1 (h.2.1.2 i _ l hv hl)
  cases q1
  refine h.step hv hl (txl_nil.2 ⟨?_, some ⟨g, 0, none⟩, c, by rw [List.length_set], ?_⟩) ((Fx.refl (fun k => (Value.slice (some ⟨g, 0, none⟩) l.length c).ownBlock = some k) w).set (p := ⟨g, j, none⟩) (.inl rfl) _)
  · intro z hz
    rcases List.mem_or_eq_of_mem_set hz with hz | rfl
    · exact h1 z hz
    · exact hy
  · rw [List.length_set]
    have := own_put q2 j (.int .u8 y)
    unfold bvs at this ⊢
    rwa [List.map_set]
theorem rb_wide (hv : vs[i]? = some v) (x : Fx (fun k => v.ownBlock = some k) w w') : Fx (RB vs) w w' := x.wide fun k _ hk => ⟨i, v, hv, hk⟩
theorem RW.row (h : RW w lo ra n rk vs L) (hi : i < n) : ∃ v l go a c, vs[i]? = some v ∧ L[i]? = some l ∧ ra = some ⟨go, 0, none⟩ ∧ v = .slice a l.length c ∧ w.cell? ⟨go, i, none⟩ = some (.slice a l.length c) ∧ w.ownsRow lo 5 1 (.slice a l.length c) l.length (bvs l) := by
  obtain ⟨v, hv⟩ : ∃ v, vs[i]? = some v := ⟨_, List.getElem?_eq_getElem (by have := h.len; omega)⟩
  obtain ⟨l, hl⟩ : ∃ l, L[i]? = some l := ⟨_, List.getElem?_eq_getElem (by have := h.len; omega)⟩
  obtain ⟨go, cur, q1, q2, q3, -⟩ := own_cellsX h.1 (by omega)
  obtain ⟨h1, a, c, q4, q5⟩ := txl_nil.1 (h.2.1.2 i _ l hv hl)
  exact ⟨v, l, go, a, c, hv, hl, q1, q4, q4 ▸ q3 i v hv, q5⟩
end
theorem own_frozen {w : World} {E : TypeId} {sz base K cap g : Nat} {xs : List Value} (h : w.ownsRow base E sz (.slice (some ⟨g, 0, none⟩) K cap) K xs) (j : Nat) : w.frozen? ⟨g, j, none⟩ = false := by
  rcases h.2 with ⟨h0, _⟩ | ⟨q, cap2, cur, h0, hg1, hg2, _⟩
  · cases h0
  · cases h0
    exact Bl.frozen (W := w) (cs := cur) (T := E) hg2 j
theorem own_at {w : World} {E : TypeId} {sz base K cap g : Nat} {xs : List Value} (h : w.ownsRow base E sz (.slice (some ⟨g, 0, none⟩) K cap) K xs) {j : Nat} {u : Value} (hj : xs[j]? = some u) : w.cell? ⟨g, j, none⟩ = some u := by
  by_cases hK : 0 < K
  · obtain ⟨g', cur, q1, q2, q3, -⟩ := own_cellsX h hK
    cases q1
    exact q3 j u hj
  · have h1 := h.1
    obtain rfl : K = 0 := by omega
    rw [Nat.zero_mul] at h1
    rw [List.eq_nil_of_length_eq_zero h1] at hj
    cases hj
/-- a row that is grown, and written at its end: the row itself stays -/
theorem grow_row {w : World} {lo K cap m : Nat} {ta : Option Addr} {l : List Int} (hB : Byt l) (hown : w.ownsRow lo 5 1 (.slice ta K cap) K (bvs l)) (hl : l.length = K) (hlo : lo ≤ w.heap.size) (hK : K ≤ 100000) (hm : 0 < m) (hm2 : m ≤ 1000) (ty : TypeId) :
    ∃ g cap' w', (Builtin.append_ #[22, 3] ty #[.slice ta K cap, .int .i64 (m : Int)]).run Tryd.prog w = .ok (.slice (some ⟨g, 0, none⟩) (K + m) cap') w' ∧ (∃ u, w'.cell? ⟨g, K + m - 1, none⟩ = some u) ∧ w'.frozen? ⟨g, K + m - 1, none⟩ = false ∧ Fx (fun k => (Value.slice ta K cap).ownBlock = some k) w w' ∧ ∀ u, TxL (w'.setCell ⟨g, K + m - 1, none⟩ u) lo [] (.slice ta K cap) l ∧ Fx (fun k => (Value.slice ta K cap).ownBlock = some k) w (w'.setCell ⟨g, K + m - 1, none⟩ u) := by
  obtain ⟨g, cap', w', h1, h2, h3, h4, h5⟩ := zer_keep (T := 22) (I := 3) (m := m) Tryd.underlying22 Tryd.underlying3 info_u8 rfl (by decide) (by decide) (by
    intro u hu
    simp [Builtin.zeroCells, Value.cells] at hu
    obtain ⟨k, hk, rfl⟩ := hu
    rw [Nat.mod_one]
    rfl) hown hlo (by omega) hm hm2 ty
  refine ⟨g, cap', w', h1, ?_, own_frozen h2 _, h4, fun u => ⟨txl_nil.2 ⟨hB, ta, cap, by rw [hl], by rw [hl]; exact own_far h3 g (K + m - 1) (by omega) u⟩, h4.set (p := ⟨g, K + m - 1, none⟩) h5 u⟩⟩
  obtain ⟨u, hu⟩ : ∃ u, (bvs l ++ (Builtin.zeroCells (Value.int .u8 0).cells m).toList)[K + m - 1]? = some u := ⟨_, List.getElem?_eq_getElem (by have := h2.1; omega)⟩
  exact ⟨u, own_at h2 hu⟩
end Go.Proofs.YtapjfokkcgdhhaaDoor
