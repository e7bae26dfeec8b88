import Derived.Test.YtapjfokkcgdhhaaDoorQaw
import Derived.Test.YtapjfokkcgdhhaaDoorQah
namespace Go.Proofs.YtapjfokkcgdhhaaDoor
open Go.RowKit
set_option linter.unusedVariables false
set_option linter.unusedSimpArgs false

theorem txl_of {w : World} {lo base n c : Nat} {a : Option Addr} {t : List Int} (h : w.ownsRow base 5 1 (.slice a n c) n (bvs t)) (hn : t.length = n) (hl : lo ≤ base) (hB : Byt t) : TxL w lo [] (.slice a n c) t := by
  subst hn
  refine ⟨hB, a, c, rfl, ?_⟩
  simp only [List.length_nil, Nat.add_zero, List.append_nil]
  exact Go.Joins.ownsRow_le h hl
theorem cdl_of {w : World} {lo base n c : Nat} {a : Option Addr} {l : List (Int × Int)} (h : w.ownsRow base 61 2 (.slice a n c) n (icl l)) (hn : l.length = n) (hl : lo ≤ base) : CdL w lo [] (.slice a n c) l := by
  subst hn
  refine ⟨a, c, rfl, ?_⟩
  simp only [List.length_nil, Nat.add_zero, List.append_nil]
  exact Go.Joins.ownsRow_le h hl
/-- in the midst of the document's Read: the result's cells, the program's, its lists, the reader -/
def RdS (w W : World) (b0 p gp B : Nat) (ba : Option Addr) (n c : Nat) (bs : List Int) (x : Int) (ta : Option Addr) (m tc : Nat) (vs : List Value) (ts : List (List Int)) (fa : Option Addr) (k fc : Nat) (cs : List Value) (fs : List (Int × Int × Int × List (Int × Int))) (s : Sum (Int × Nat) Nat) : Prop :=
  Bl W b0 #[.int .i64 0, .slice none 0 0, .slice none 0 0] 35 ∧ Bl W gp #[.int .i64 x, .slice ta m tc, .slice fa k fc] 35 ∧ W.ownsRow (gp + 1) 22 1 (.slice ta m tc) m vs ∧ TL W (gp + 1) [] vs ts ∧ ts.length = m ∧ W.ownsRow (gp + 1) 40 4 (.slice fa k fc) k (fcl fs cs) ∧ CL W (gp + 1) [] cs fs ∧ fs.length = k ∧ RQ W p B ba n c bs s ∧ Out 0 0 w W ∧ B ≤ w.heap.size ∧ w.heap.size ≤ b0 ∧ b0 < p ∧ p < gp
section
variable {w W W2 : World} {b0 p gp B : Nat} {ba : Option Addr} {n c : Nat} {bs : List Int} {x : Int} {ta : Option Addr} {m tc : Nat} {vs : List Value} {ts : List (List Int)} {fa : Option Addr} {k fc : Nat} {cs : List Value} {fs : List (Int × Int × Int × List (Int × Int))} {s s2 : Sum (Int × Nat) Nat}
theorem RdS.call (h : RdS w W b0 p gp B ba n c bs x ta m tc vs ts fa k fc cs fs s) (hr : RQ W2 p B ba n c bs s2) (y : Fx (fun k => k = p) W W2) : RdS w W2 b0 p gp B ba n c bs x ta m tc vs ts fa k fc cs fs s2 := by
  obtain ⟨h1, h2, h3, h4, h5, h6, h7, h8, h9, h10, h11, h12, h13, h14⟩ := h
  refine ⟨h1.fx y (by omega), h2.fx y (by omega), own_fx h3 y (fun q hq e => ?_), h4.fx y (fun j v t q z1 z2 z3 e => ?_), h5, own_fx h6 y (fun q hq e => ?_), h7.fx y (fun j v t q z1 z2 z3 e => ?_), h8, hr, out_fx h10 y (fun q e => by omega), h11, h12, h13, h14⟩
  · have := (own_ge h3 hq).1; omega
  · have := ((h4.2 j v t z1 z2).ob z3).1; omega
  · have := (own_ge h6 hq).1; omega
  · have := ((h7.2.1 j v t z1 z2).ob z3).1; omega
theorem RdS.quiet (h : RdS w W b0 p gp B ba n c bs x ta m tc vs ts fa k fc cs fs s) (o : Out 0 0 W W2) : RdS w W2 b0 p gp B ba n c bs x ta m tc vs ts fa k fc cs fs s := h.call (h.2.2.2.2.2.2.2.2.1.quiet o) (Fx.of_out o)
theorem RdS.setX (h : RdS w W b0 p gp B ba n c bs x ta m tc vs ts fa k fc cs fs s) (x' : Int) : RdS w (W.setCell ⟨gp, 0, none⟩ (.int .i64 x')) b0 p gp B ba n c bs x' ta m tc vs ts fa k fc cs fs s := by
  obtain ⟨h1, h2, h3, h4, h5, h6, h7, h8, h9, h10, h11, h12, h13, h14⟩ := h
  have y : Fx (fun k => k = gp) W (W.setCell ⟨gp, 0, none⟩ (.int .i64 x')) := (Fx.refl (fun k => k = gp) W).set (p := ⟨gp, 0, none⟩) (.inl rfl) _
  refine ⟨h1.fx y (by omega), h2.set 0 (.int .i64 x'), own_fx h3 y (fun q hq e => ?_), h4.fx y (fun j v t q z1 z2 z3 e => ?_), h5, own_fx h6 y (fun q hq e => ?_), h7.fx y (fun j v t q z1 z2 z3 e => ?_), h8, h9.fx y (fun q e => by omega), out_fx h10 y (fun q e => by omega), h11, h12, h13, h14⟩
  · have := (own_ge h3 hq).1; omega
  · have := ((h4.2 j v t z1 z2).ob z3).1; omega
  · have := (own_ge h6 hq).1; omega
  · have := ((h7.2.1 j v t z1 z2).ob z3).1; omega
theorem RdS.pushT {g cap' : Nat} {v : Value} {t : List Int} (h : RdS w W b0 p gp B ba n c bs x ta m tc vs ts fa k fc cs fs s) (hv : TxL W (gp + 1) [] v t) (z1 : W2.ownsRow (gp + 1) 22 1 (.slice (some ⟨g, 0, none⟩) (m + 1) cap') (m + 1) (vs ++ [v])) (z2 : Fx (fun k => (Value.slice ta m tc).ownBlock = some k) W W2) :
    RdS w (W2.setCell ⟨gp, 1, none⟩ (.slice (some ⟨g, 0, none⟩) (m + 1) cap')) b0 p gp B ba n c bs x (some ⟨g, 0, none⟩) (m + 1) cap' (vs ++ [v]) (ts ++ [t]) fa k fc cs fs s := by
  obtain ⟨h1, h2, h3, h4, h5, h6, h7, h8, h9, h10, h11, h12, h13, h14⟩ := h
  have y : Fx (fun k => k = gp) W2 (W2.setCell ⟨gp, 1, none⟩ (.slice (some ⟨g, 0, none⟩) (m + 1) cap')) := (Fx.refl (fun k => k = gp) W2).set (p := ⟨gp, 1, none⟩) (.inl rfl) _
  have hge : ∀ q, (Value.slice ta m tc).ownBlock = some q → gp + 1 ≤ q := fun q hq => (own_ge h3 hq).1
  have t4 := (h4.up hv).fx z2 (fun j v' t' q y1 y2 y3 e => ((h4.up hv).2 j v' t' y1 y2).other h3 (by decide) y3 e)
  have g6 := own_fx h6 z2 (fun q hq e => own_apart h6 h3 (by decide) hq e)
  have g7 := h7.fx z2 (fun j v' t' q y1 y2 y3 e => (h7.2.1 j v' t' y1 y2).other h3 (by decide) y3 e)
  refine ⟨(h1.fx z2 (fun e => by have := hge _ e; omega)).fx y (by omega), (h2.fx z2 (fun e => by have := hge _ e; omega)).set 1 _, own_fx z1 y (fun q hq e => by have := (own_ge z1 hq).1; omega), t4.fx y (fun j v' t' q y1 y2 y3 e => by have := ((t4.2 j v' t' y1 y2).ob y3).1; omega), by rw [List.length_append, h5]; rfl, own_fx g6 y (fun q hq e => by have := (own_ge g6 hq).1; omega), g7.fx y (fun j v' t' q y1 y2 y3 e => by have := ((g7.2.1 j v' t' y1 y2).ob y3).1; omega), h8, (h9.fx z2 (fun q e => by have := hge _ e; omega)).fx y (fun q e => by omega), out_fx (out_fx h10 z2 (fun q e => by have := hge _ e; omega)) y (fun q e => by omega), h11, h12, h13, h14⟩
theorem RdS.pushF {g cap' N : Nat} {v : Value} {f : Int × Int × Int × List (Int × Int)} (h : RdS w W b0 p gp B ba n c bs x ta m tc vs ts fa k fc cs fs s) (hv : CdL W (gp + 1) [] v f.2.2.2) (hN : ∀ (j : Nat) a q, cs[j]? = some a → a.ownBlock = some q → q < N) (hn : ∀ q, v.ownBlock = some q → N ≤ q) (z1 : W2.ownsRow (gp + 1) 40 4 (.slice (some ⟨g, 0, none⟩) (k + 1) cap') (k + 1) (fcl fs cs ++ [.int .i64 f.1, .int .i64 f.2.1, .int .i64 f.2.2.1, v])) (z2 : Fx (fun q => (Value.slice fa k fc).ownBlock = some q) W W2) :
    RdS w (W2.setCell ⟨gp, 2, none⟩ (.slice (some ⟨g, 0, none⟩) (k + 1) cap')) b0 p gp B ba n c bs x ta m tc vs ts (some ⟨g, 0, none⟩) (k + 1) cap' (cs ++ [v]) (fs ++ [f]) s := by
  obtain ⟨h1, h2, h3, h4, h5, h6, h7, h8, h9, h10, h11, h12, h13, h14⟩ := h
  have y : Fx (fun k => k = gp) W2 (W2.setCell ⟨gp, 2, none⟩ (.slice (some ⟨g, 0, none⟩) (k + 1) cap')) := (Fx.refl (fun k => k = gp) W2).set (p := ⟨gp, 2, none⟩) (.inl rfl) _
  have hge : ∀ q, (Value.slice fa k fc).ownBlock = some q → gp + 1 ≤ q := fun q hq => (own_ge h6 hq).1
  have g3 := own_fx h3 z2 (fun q hq e => own_apart h3 h6 (by decide) hq e)
  have t4 := h4.fx z2 (fun j v' t' q y1 y2 y3 e => (h4.2 j v' t' y1 y2).other h6 (by decide) y3 e)
  have u7 := h7.up hv hN hn
  have g7 := u7.fx z2 (fun j v' t' q y1 y2 y3 e => (u7.2.1 j v' t' y1 y2).other h6 (by decide) y3 e)
  refine ⟨(h1.fx z2 (fun e => by have := hge _ e; omega)).fx y (by omega), (h2.fx z2 (fun e => by have := hge _ e; omega)).set 2 _, own_fx g3 y (fun q hq e => by have := (own_ge g3 hq).1; omega), t4.fx y (fun j v' t' q y1 y2 y3 e => by have := ((t4.2 j v' t' y1 y2).ob y3).1; omega), h5, ?_, g7.fx y (fun j v' t' q y1 y2 y3 e => by have := ((g7.2.1 j v' t' y1 y2).ob y3).1; omega), by rw [List.length_append, h8]; rfl, (h9.fx z2 (fun q e => by have := hge _ e; omega)).fx y (fun q e => by omega), out_fx (out_fx h10 z2 (fun q e => by have := hge _ e; omega)) y (fun q e => by omega), h11, h12, h13, h14⟩
  rw [fcl_up f v h7.1]
  exact own_fx z1 y (fun q hq e => by have := (own_ge z1 hq).1; omega)
end
theorem RdS.fin {w W : World} {b0 p gp B : Nat} {ba : Option Addr} {n c : Nat} {bs : List Int} {x : Int} {ta : Option Addr} {m tc : Nat} {vs : List Value} {ts : List (List Int)} {fa : Option Addr} {k fc : Nat} {cs : List Value} {fs : List (Int × Int × Int × List (Int × Int))} {s : Sum (Int × Nat) Nat} (h : RdS w W b0 p gp B ba n c bs x ta m tc vs ts fa k fc cs fs s) (v0 v1 v2 : Value) : ∀ W', ((W.setCell ⟨b0, 0, none⟩ v0).setCell ⟨b0, 1, none⟩ v1).setCell ⟨b0, 2, none⟩ v2 = W' → Bl W' b0 #[v0, v1, v2] 35 ∧ Out 0 0 w W' ∧ W'.ownsRow w.heap.size 22 1 (.slice ta m tc) m vs ∧ TL W' w.heap.size [] vs ts ∧ W'.ownsRow w.heap.size 40 4 (.slice fa k fc) k (fcl fs cs) ∧ CL W' w.heap.size [] cs fs := by
  rintro W' rfl
  obtain ⟨h1, h2, h3, h4, h5, h6, h7, h8, h9, h10, h11, h12, h13, h14⟩ := h
  have y : Fx (fun k => k = b0) W (((W.setCell ⟨b0, 0, none⟩ v0).setCell ⟨b0, 1, none⟩ v1).setCell ⟨b0, 2, none⟩ v2) := (((Fx.refl (fun k => k = b0) W).set (p := ⟨b0, 0, none⟩) (.inl rfl) _).set (p := ⟨b0, 1, none⟩) (.inl rfl) _).set (p := ⟨b0, 2, none⟩) (.inl rfl) _
  have hl : w.heap.size ≤ gp + 1 := by omega
  refine ⟨((h1.set 0 v0).set 1 v1).set 2 v2, out_fx h10 y (fun q e => by omega), Go.Joins.ownsRow_le (own_fx h3 y (fun q hq e => ?_)) hl, (h4.fx y (fun j v t q z1 z2 z3 e => ?_)).low hl, Go.Joins.ownsRow_le (own_fx h6 y (fun q hq e => ?_)) hl, (h7.fx y (fun j v t q z1 z2 z3 e => ?_)).low hl⟩
  · have := (own_ge h3 hq).1; omega
  · have := ((h4.2 j v t z1 z2).ob z3).1; omega
  · have := (own_ge h6 hq).1; omega
  · have := ((h7.2.1 j v t z1 z2).ob z3).1; omega
/-- what the document's Read leaves -/
def RRQ (w : World) (n : Nat) (bs : List Int) (e : Ending) (w' : World) : Prop := Out 0 0 w w' ∧ ((65536 < n ∧ e = .returned (.tuple #[.agg #[.int .i64 0, .slice none 0 0, .slice none 0 0], .int .i64 0, .int .i64 2])) ∨
  (n ≤ 65536 ∧ ∃ x q, wholeR bs = .inl (x, q) ∧ e = .returned (.tuple #[.agg #[.int .i64 0, .slice none 0 0, .slice none 0 0], .int .i64 (q : Nat), .int .i64 x])) ∨
  (n ≤ 65536 ∧ ∃ x ts fs ta tc fa fc vs cs, wholeR bs = .inr (x, ts, fs) ∧ w'.ownsRow w.heap.size 22 1 (.slice ta ts.length tc) ts.length vs ∧ TL w' w.heap.size [] vs ts ∧ w'.ownsRow w.heap.size 40 4 (.slice fa fs.length fc) fs.length (fcl fs cs) ∧ CL w' w.heap.size [] cs fs ∧ e = .returned (.tuple #[.agg #[.int .i64 x, .slice ta ts.length tc, .slice fa fs.length fc], .int .i64 0, .int .i64 0])))
theorem results_c2 {P : Program} {fn : Func} {p q r : Tmp} {a : TypeId} {t : Array Value} {w : World} {v1 v2 v3 : Value} {A1 : Addr} (hr : fn.results = #[.cell p a, .tmp q, .tmp r]) (hp : t.getD p undef = .pointer (some A1)) (hq : t.getD q undef = v2) (hu : t.getD r undef = v3) (r1 : (loadVar a A1).run P w = .ok v1 w) : (results fn t).run P w = .ok (.tuple #[v1, v2, v3]) w := by
  have hp' : t[p]?.getD undef = .pointer (some A1) := by simpa using hp
  have hq' : t[q]?.getD undef = v2 := by simpa using hq
  have hu' : t[r]?.getD undef = v3 := by simpa using hu
  simp only [results, hr]
  simp [Sem.run_bind, hp', hq', hu', asAddr, r1, Result.andThen]
theorem infoPq (v0 v1 v2 : Value) : (Tryd.prog.info? 35).map (·.size) = some (#[v0, v1, v2] : Array Value).size := by kernel_rfl
theorem load_prR {w : World} {g : Nat} {v0 v1 v2 : Value} (hg : Bl w g #[v0, v1, v2] 35) : (loadVar 35 ⟨g, 0, none⟩).run Tryd.prog w = .ok (.agg #[v0, v1, v2]) w := run_loadVar_row w g 35 35 _ (0, 0) _ hg Tryd.underlying35 rfl (infoPq v0 v1 v2)
theorem three_newR (w : World) (c0 c1 c2 : Array Value) (T0 T1 T2 : TypeId) : Bl (((w.alloc (.cells c0 T0)).alloc (.cells c1 T1)).alloc (.cells c2 T2)) w.heap.size c0 T0 ∧ Bl (((w.alloc (.cells c0 T0)).alloc (.cells c1 T1)).alloc (.cells c2 T2)) (w.heap.size + 1) c1 T1 ∧ Bl (((w.alloc (.cells c0 T0)).alloc (.cells c1 T1)).alloc (.cells c2 T2)) (w.heap.size + 1 + 1) c2 T2 := by
  refine ⟨((Bl.new w c0 T0).alloc _).alloc _, ?_, ?_⟩
  · have := (Bl.new (w.alloc (.cells c0 T0)) c1 T1).alloc (.cells c2 T2)
    rwa [size_alloc] at this
  · have := Bl.new ((w.alloc (.cells c0 T0)).alloc (.cells c1 T1)) c2 T2
    rwa [size_alloc, size_alloc] at this
theorem ocn_leL {lo hi : Nat} {bs : List Int} {a : Nat} : ocn (numR lo hi bs a) ≤ hi := by
  rcases h : numR lo hi bs a with x | ⟨v, e⟩
  · exact Nat.zero_le _
  · exact (num_in h).2
theorem rpart_all {w : World} {p B : Nat} {ba : Option Addr} {n c : Nat} {bs : List Int} {s : Sum (Int × Nat) Nat} (h : RQ w p B ba n c bs s) (k : Nat) :
    Calls Tryd.prog 29 #[.pointer (some ⟨p, 0, none⟩), .int .i64 k] w fun e w' => ∃ (A' : Option Addr) (C' : Nat) (t : List Int), e = .returned (.slice A' t.length C') ∧ ByIn w' B A' t ∧ RQ w' p B ba n c bs (ocs (stp (takeR k) bs s)) ∧ Fx (fun k => k = p) w w' ∧ t.length ≤ n ∧ ∀ t0 q, stp (takeR k) bs s = .inr (t0, q) → t = t0 := by
  cases s with
  | inl x =>
    refine (rpart_bad h k).mono fun e w' ⟨h1, h2⟩ => ?_
    subst h2
    exact ⟨none, 0, [], h1, ⟨(fun b hb => by cases hb), .inl rfl⟩, h, Fx.refl _ _, Nat.zero_le _, fun t0 q hq => by cases hq⟩
  | inr a =>
    have hal := h.2.2.2.2.2.1
    have hlen := h.2.1
    by_cases hk : a + k ≤ n
    · refine (rpart_go h k hk).mono fun e w' ⟨A', C', h1, h2, h3, h4, h5⟩ => ?_
      have e1 : takeR k bs a = .inr ((bs.drop a).take k, a + k) := take_ok (by omega)
      have e2 : ((bs.drop a).take k).length = k := by rw [List.length_take, List.length_drop]; omega
      refine ⟨A', C', (bs.drop a).take k, by rw [e2]; exact h1, h3, ?_, h5, by omega, fun t0 q hq => ?_⟩
      · show RQ w' p B ba n c bs (ocs (takeR k bs a)); rw [e1]; exact h4
      · have hq' : takeR k bs a = .inr (t0, q) := hq
        rw [e1] at hq'; cases hq'; rfl
    · refine (rpart_end h k (by omega)).mono fun e w' ⟨h1, h2, h3⟩ => ?_
      have e1 : takeR k bs a = .inl (61, n) := by rw [take_err (by omega) (by omega), hlen]
      refine ⟨none, 0, [], h1, ⟨(fun b hb => by cases hb), .inl rfl⟩, ?_, h3, Nat.zero_le _, fun t0 q hq => ?_⟩
      · show RQ w' p B ba n c bs (ocs (takeR k bs a)); rw [e1]; exact h2
      · have hq' : takeR k bs a = .inr (t0, q) := hq
        rw [e1] at hq'; cases hq'
theorem txt_stp (bs : List Int) (e : Nat) : txtR bs e = stp (takeR (ocn (numR 0 4096 bs e))) bs (ocs (numR 0 4096 bs e)) := by
  unfold txtR bndR
  rcases numR 0 4096 bs e with x | ⟨v, e2⟩ <;> rfl
def octs {α : Type} : Sum (Int × Nat) (List α × Nat) → List α
  | .inl _ => []
  | .inr v => v.1
def prO (u : Nat) (ts : List (List Int)) : Sum (Int × Nat) (List (Int × Int × Int × List (Int × Int)) × Nat) → Sum (Int × Nat) ((Int × List (List Int) × List (Int × Int × Int × List (Int × Int))) × Nat)
  | .inl x => .inl x
  | .inr l => .inr (((u : Int), ts, l.1), l.2)
theorem prg_parts (bs : List Int) (M : Sum (Int × Nat) (Unit × Nat)) (R1 R2 R3 : Sum (Int × Nat) (Nat × Nat)) (RT : Sum (Int × Nat) (List (List Int) × Nat)) (RF : Sum (Int × Nat) (List (Int × Int × Int × List (Int × Int)) × Nat)) (h0 : magR [104, 116, 104, 1] bs 0 = M) (h1 : stp (numR 0 64) bs (ocs M) = R1) (h2 : stp (numR 0 64) bs (ocs R1) = R2) (h3 : stp (repR (ocn R2) txtR) bs (ocs R2) = RT) (h4 : stp (numR 1 64) bs (ocs RT) = R3) (h5 : stp (repR (ocn R3) funR) bs (ocs R3) = RF) :
    prgR bs 0 = prO (ocn R1) (octs RT) RF := by
  unfold prgR
  rcases M with x | ⟨v0, e0⟩
  · subst h1 h2 h3 h4 h5; rw [bnd_err h0]; rfl
  rw [bnd_ok h0]
  have h1' : numR 0 64 bs e0 = R1 := h1
  rcases R1 with x | ⟨v1, e1⟩
  · subst h2 h3 h4 h5; rw [bnd_err h1']; rfl
  rw [bnd_ok h1']
  have h2' : numR 0 64 bs e1 = R2 := h2
  rcases R2 with x | ⟨v2, e2⟩
  · subst h3 h4 h5; rw [bnd_err h2']; rfl
  rw [bnd_ok h2']
  have h3' : repR v2 txtR bs e2 = RT := h3
  rcases RT with x | ⟨v3, e3⟩
  · subst h4 h5; rw [bnd_err h3']; rfl
  rw [bnd_ok h3']
  have h4' : numR 1 64 bs e3 = R3 := h4
  rcases R3 with x | ⟨v4, e4⟩
  · subst h5; rw [bnd_err h4']; rfl
  rw [bnd_ok h4']
  have h5' : repR v4 funR bs e4 = RF := h5
  rcases RF with x | ⟨l, e5⟩
  · rw [bnd_err h5']; rfl
  rw [bnd_ok h5']
  rfl
theorem far3 {w : World} {b0 p o : Nat} {v v0 v1 v2 : Value} (h : w.cell? ⟨p, o, none⟩ = some v) (hp : p ≠ b0) : ((((w.setCell ⟨b0, 0, none⟩ v0).setCell ⟨b0, 1, none⟩ v1).setCell ⟨b0, 2, none⟩ v2).drew).cell? ⟨p, o, none⟩ = some v := by
  have x : Fx (fun k => k = b0) w (((w.setCell ⟨b0, 0, none⟩ v0).setCell ⟨b0, 1, none⟩ v1).setCell ⟨b0, 2, none⟩ v2) := (((Fx.refl (fun k => k = b0) w).set (p := ⟨b0, 0, none⟩) (.inl rfl) _).set (p := ⟨b0, 1, none⟩) (.inl rfl) _).set (p := ⟨b0, 2, none⟩) (.inl rfl) _
  exact x.drew.cell h hp
theorem hd_at {i : Nat} (h : i < 4) : ∃ x : Int, ([104, 116, 104, 1] : List Int).drop i = x :: ([104, 116, 104, 1] : List Int).drop (i + 1) ∧ (#[.int .u8 104, .int .u8 116, .int .u8 104, .int .u8 1] : Array Value)[i]? = some (.int .u8 x) := by
  have : i = 0 ∨ i = 1 ∨ i = 2 ∨ i = 3 := by omega
  rcases this with rfl | rfl | rfl | rfl
  · exact ⟨104, rfl, rfl⟩
  · exact ⟨116, rfl, rfl⟩
  · exact ⟨104, rfl, rfl⟩
  · exact ⟨1, rfl, rfl⟩
/-- in the midst of the head -/
def HdS (w W : World) (b0 B : Nat) (ba : Option Addr) (n c : Nat) (bs : List Int) (s : Sum (Int × Nat) Nat) : Prop := Bl W b0 #[.int .i64 0, .slice none 0 0, .slice none 0 0] 35 ∧ Bl W (b0 + 1 + 1) #[.int .u8 104, .int .u8 116, .int .u8 104, .int .u8 1] 5 ∧ RQ W (b0 + 1) B ba n c bs s ∧ Out 0 0 w W ∧ B ≤ w.heap.size ∧ w.heap.size = b0
theorem HdS.call {w W W2 : World} {b0 B : Nat} {ba : Option Addr} {n c : Nat} {bs : List Int} {s s2 : Sum (Int × Nat) Nat} (h : HdS w W b0 B ba n c bs s) (hr : RQ W2 (b0 + 1) B ba n c bs s2) (y : Fx (fun k => k = b0 + 1) W W2) : HdS w W2 b0 B ba n c bs s2 := by
  obtain ⟨h1, h2, h3, h4, h5, h6⟩ := h
  exact ⟨h1.fx y (by omega), h2.fx y (by omega), hr, out_fx h4 y (fun q e => by omega), h5, h6⟩
set_option maxRecDepth 100000 in
set_option maxHeartbeats 4000000 in
theorem rread_any {w : World} {B n c : Nat} {ba : Option Addr} {bs : List Int} (hB : B ≤ w.heap.size) (hin : ByIn w B ba bs) (hn : bs.length = n) (hc : n ≤ c) :
    Calls Tryd.prog 14 #[.slice ba n c] w (RRQ w n bs) := by
  obtain ⟨b0, hb0⟩ : ∃ b0, w.heap.size = b0 := ⟨_, rfl⟩
  by_cases hlong : 65536 < n
  · have l1 : decide (65536 < (n : Int)) = true := by simp; omega
    have HL := hid_mk hlong
    clear hB hin hn hc hlong
    go_enter Tryd.func14, Tryd.ntmps14
    go_wp2
    refine bodyPost_ret (v := .tuple #[.agg #[.int .i64 0, .slice none 0 0, .slice none 0 0], .int .i64 0, .int .i64 2]) (results_c2 Tryd.results14 rfl rfl rfl (load_prR (by rw [← hb0]; exact Bl.new w #[.int .i64 0, .slice none 0 0, .slice none 0 0] 35))) rfl ⟨(Out.refl 0 0 w).alloc _, .inl ⟨HL.out, rfl⟩⟩
  · have l1 : decide (65536 < (n : Int)) = false := by simp; omega
    obtain ⟨V, hV⟩ : ∃ V, ((w.alloc (.cells #[.int .i64 0, .slice none 0 0, .slice none 0 0] 35)).alloc (.cells #[.slice ba n c, .int .i64 0, .int .i64 0, .int .i64 0] 72)).alloc (.cells #[.int .u8 104, .int .u8 116, .int .u8 104, .int .u8 1] 5) = V := ⟨_, rfl⟩
    have HS0 : Hid (HdS w V b0 B ba n c bs (.inr 0) ∧ n ≤ 65536 ∧ bs.length = n) := hid_mk (by
      have o : Out 0 0 w V := by rw [← hV]; exact (((Out.refl 0 0 w).alloc _).alloc _).alloc _
      obtain ⟨t0, t1, t2⟩ := three_newR w #[.int .i64 0, .slice none 0 0, .slice none 0 0] #[.slice ba n c, .int .i64 0, .int .i64 0, .int .i64 0] #[.int .u8 104, .int .u8 116, .int .u8 104, .int .u8 1] 35 72 5
      rw [hV, hb0] at t0 t1 t2
      exact ⟨⟨t0, t2, ⟨hin.kept (Lo.of_out o) (Nat.le_refl _), hn, by omega, hc, by omega, Nat.zero_le _, t1⟩, o, hB, hb0⟩, by omega, hn⟩)
    clear hB hin hn hc hlong
    go_enter Tryd.func14, Tryd.ntmps14
    go_wp2
    (try rw [hV])
    (try rw [hb0])
    clear hV hb0
    go_loopw [7] (fun iv W => ∃ (i : Nat) (s : Sum (Int × Nat) Nat), iv = .int .i64 i ∧ i ≤ 4 ∧ HdS w W b0 B ba n c bs s ∧ ((s = .inr i ∧ magR [104, 116, 104, 1] bs 0 = magR (([104, 116, 104, 1] : List Int).drop i) bs i) ∨ ∃ x, s = .inl x ∧ magR [104, 116, 104, 1] bs 0 = .inl x)) (fun iv _ => 4 - (intOf iv).toNat)
    case atStart => exact ⟨0, _, rfl, by omega, HS0.out.1, .inl ⟨rfl, rfl⟩⟩
    case round =>
      obtain ⟨i, s, rfl, hi4, hH, hs⟩ := hrel
      by_cases hgo : i < 4
      · obtain ⟨p1, p2⟩ := lt_d hgo
        have p3 : decide ((i : Int) < 4) = true := by simp; omega
        obtain ⟨h, hd1, hd2⟩ := hd_at hgo
        have lt4 : (i : Int) < 4 := by omega
        rcases hs with ⟨rfl, hm⟩ | ⟨x, rfl, hm⟩
        · rw [hd1] at hm
          by_cases hin : i + 1 ≤ n
          · have HP := hid_mk (rpart_go hH.2.2.1 1 hin)
            have HI : Hid (i < 4 ∧ HdS w wr b0 B ba n c bs (.inr i) ∧ magR [104, 116, 104, 1] bs 0 = magR (h :: ([104, 116, 104, 1] : List Int).drop (i + 1)) bs i ∧ i + 1 ≤ n) := hid_mk ⟨hgo, hH, hm, hin⟩
            clear hi4 hgo hH hm hd1 hin
            go_wp2_with fail
            refine HP.out.mono ?_
            rintro e w2 ⟨A', C', rfl, hC, hB2, hR2, x2⟩
            obtain ⟨hgo, hH, hm, hin⟩ := HI.out
            obtain ⟨y, hy⟩ : ∃ y, bs[i]? = some y := ⟨_, List.getElem?_eq_getElem (by have := HS0.out.2.2; omega)⟩
            obtain ⟨g, off, rfl, c1, hy0, hy1⟩ := byte_in hB2 hy
            have h2 := hH.call hR2 x2
            have k3 : w2.cell? ⟨b0 + 1, 3, none⟩ = some (.int .i64 0) := hR2.2.2.2.2.2.2.cell (i := 3) rfl
            have k5 : w2.cell? ⟨b0 + 1 + 1, i, none⟩ = some (.int .u8 h) := h2.2.1.cell hd2
            by_cases heq : y = h
            · have HE : Hid (i < 4 ∧ HdS w w2 b0 B ba n c bs (.inr (i + 1)) ∧ magR [104, 116, 104, 1] bs 0 = magR (([104, 116, 104, 1] : List Int).drop (i + 1)) bs (i + 1)) := hid_mk ⟨hgo, h2, by rw [hm, ← heq, mag_ok hy]⟩
              have q1 : (y == h) = true := by simpa using heq
              have q2 : decide (y = h) = true := by simpa using heq
              have q3 : (y != h) = false := by simpa using heq
              have o9 : Out 0 0 w2 w2.drew := (Out.refl 0 0 w2).drew
              have HO := hid_mk o9
              clear hgo hH hm hin hy hy0 hy1 h2 hR2 x2 hC hB2 HP HI heq o9
              go_wp2_with fail
              refine wp_region_held_drew (S := fun w' => w'.cell? ⟨b0 + 1, 3, none⟩ = some (.int .i64 0) ∧ w'.cell? ⟨g, off, none⟩ = some (.int .u8 y) ∧ w'.cell? ⟨b0 + 1 + 1, i, none⟩ = some (.int .u8 h)) (by kernel_rfl) ?hS1 (fun hHeld => ?rest1)
              case hS1 => exact ⟨k3, c1, k5⟩
              refine tk 0 ?_
              refine tk 1 ?_
              refine tk 2 ?_
              refine tk 3 ?_
              refine tk 4 ?_
              refine tk 5 ?_
              refine tk 6 ?_
              refine tk 7 ?_
              refine tk 8 ?_
              refine tk 9 ?_
              refine tk 10 ?_
              refine tk 11 ?_
              refine tk 12 ?_
              refine tk 13 ?_
              refine tk 14 ?_
              refine wpAnyH_done (by kernel_rfl) ?_ _
              go_wp2
              exact ⟨⟨i + 1, _, by first | exact up_V (K := 4) HE.out.1 (by omega) | rfl, HE.out.1, HE.out.2.1.call (HE.out.2.1.2.2.1.quiet HO.out) (Fx.of_out HO.out), .inl ⟨rfl, HE.out.2.2⟩⟩, by have := HE.out.1; simp [intOf]; omega⟩
            · have HE : Hid (i < 4 ∧ HdS w w2 b0 B ba n c bs (.inr (i + 1)) ∧ magR [104, 116, 104, 1] bs 0 = .inl (60, i)) := hid_mk ⟨hgo, h2, by rw [hm, mag_no hy heq]⟩
              have q1 : (y == h) = false := by simpa using heq
              have q2 : decide (y = h) = false := by simpa using heq
              have q3 : (y != h) = true := by simpa using heq
              obtain ⟨V4, hV4⟩ : ∃ V4, w2.drew = V4 := ⟨_, rfl⟩
              have o9 : Out 0 0 w2 V4 := by rw [← hV4]; exact (Out.refl 0 0 w2).drew
              have h4 := h2.call (hR2.quiet o9) (Fx.of_out o9)
              have HBd := hid_mk (rbad_ok h4.2.2.1 60 (by decide) i)
              have H4 := hid_mk h4
              clear hgo hH hm hin hy hy0 hy1 h2 hR2 x2 hC hB2 HP HI heq o9 h4
              go_wp2_with fail
              refine wp_region_held_drew (S := fun w' => w'.cell? ⟨b0 + 1, 3, none⟩ = some (.int .i64 0) ∧ w'.cell? ⟨g, off, none⟩ = some (.int .u8 y) ∧ w'.cell? ⟨b0 + 1 + 1, i, none⟩ = some (.int .u8 h)) (by kernel_rfl) ?hS17 (fun hHeld => ?rest17)
              case hS17 => exact ⟨k3, c1, k5⟩
              refine tk 0 ?_
              refine tk 1 ?_
              refine tk 2 ?_
              refine tk 3 ?_
              refine tk 4 ?_
              refine tk 5 ?_
              refine tk 6 ?_
              refine tk 7 ?_
              refine tk 8 ?_
              refine tk 9 ?_
              refine tk 10 ?_
              refine tk 11 ?_
              refine tk 12 ?_
              refine tk 13 ?_
              refine tk 14 ?_
              refine wpAnyH_done (by kernel_rfl) ?_ _
              (try rw [hV4])
              go_wp2_with (go_at_call 30; refine HBd.out.mono ?_; rintro r w5 ⟨rfl, h5, x5⟩; have H5 := hid_mk (And.intro h5 x5); clear h5 x5)
              exact ⟨⟨i + 1, _, by first | exact up_V (K := 4) HE.out.1 (by omega) | rfl, HE.out.1, H4.out.call H5.out.1 H5.out.2, .inr ⟨_, rfl, HE.out.2.2⟩⟩, by have := HE.out.1; simp [intOf]; omega⟩
          · have hni : n = i := by have := hH.2.2.1.2.2.2.2.2.1; omega
            have HP := hid_mk (rpart_end hH.2.2.1 1 (by omega))
            have HI : Hid (i < 4 ∧ HdS w wr b0 B ba n c bs (.inr i) ∧ magR [104, 116, 104, 1] bs 0 = .inl (61, n)) := hid_mk ⟨hgo, hH, by rw [hm, mag_end (by rw [HS0.out.2.2, hni]), hni]⟩
            clear hi4 hgo hH hm hd1 hd2 hin hni
            go_wp2_with fail
            refine HP.out.mono ?_
            rintro e w2 ⟨rfl, hR2, x2⟩
            have h2 := HI.out.2.1.call hR2 x2
            have o9 : Out 0 0 w2 w2.drew := (Out.refl 0 0 w2).drew
            have HE := hid_mk (h2.call (hR2.quiet o9) (Fx.of_out o9))
            obtain ⟨-, -, -, -, -, -, a9, -, b9⟩ := hR2
            have k3 : w2.cell? ⟨b0 + 1, 3, none⟩ = some (.int .i64 61) := b9.cell (i := 3) rfl
            clear b9 x2 h2 HP o9
            go_wp2_with fail
            refine wp_region_held_drew (S := fun w' => w'.cell? ⟨b0 + 1, 3, none⟩ = some (.int .i64 61)) (by kernel_rfl) ?hS33 (fun hHeld => ?rest33)
            case hS33 => exact k3
            refine tk 0 ?_
            refine tk 1 ?_
            refine tk 2 ?_
            refine tk 3 ?_
            refine tk 4 ?_
            refine tk 5 ?_
            refine sk 6 ?_
            refine sk 7 ?_
            refine sk 8 ?_
            refine sk 9 ?_
            refine sk 10 ?_
            refine sk 11 ?_
            refine sk 12 ?_
            refine sk 13 ?_
            refine tk 14 ?_
            refine wpAnyH_done (by kernel_rfl) ?_ _
            go_wp2
            exact ⟨⟨i + 1, _, by first | exact up_V (K := 4) HI.out.1 (by omega) | rfl, HI.out.1, HE.out, .inr ⟨_, rfl, HI.out.2.2⟩⟩, by have := HI.out.1; simp [intOf]; omega⟩
        · have HP := hid_mk (rpart_bad hH.2.2.1 1)
          have HI : Hid (i < 4 ∧ HdS w wr b0 B ba n c bs (.inl x) ∧ magR [104, 116, 104, 1] bs 0 = .inl x) := hid_mk ⟨hgo, hH, hm⟩
          obtain ⟨a9, hl9, b9⟩ := hH.2.2.1.2.2.2.2.2.2
          have hx0 : x.1 ≠ 0 := hH.2.2.1.2.2.2.2.2.1
          have k3 : wr.cell? ⟨b0 + 1, 3, none⟩ = some (.int .i64 x.1) := b9.cell (i := 3) rfl
          have e0 : (x.1 == 0) = false := by simpa using hx0
          have e1 : decide (x.1 = 0) = false := by simpa using hx0
          clear hi4 hgo hH hm hd1 hd2 b9 hx0 hl9
          go_wp2_with fail
          refine HP.out.mono ?_
          rintro e w2 ⟨rfl, rfl⟩
          have o9 : Out 0 0 w2 w2.drew := (Out.refl 0 0 w2).drew
          have HE := hid_mk (HI.out.2.1.call (HI.out.2.1.2.2.1.quiet o9) (Fx.of_out o9))
          clear HP o9
          go_wp2_with fail
          refine wp_region_held_drew (S := fun w' => w'.cell? ⟨b0 + 1, 3, none⟩ = some (.int .i64 x.1)) (by kernel_rfl) ?hS49 (fun hHeld => ?rest49)
          case hS49 => exact k3
          refine tk 0 ?_
          refine tk 1 ?_
          refine tk 2 ?_
          refine tk 3 ?_
          refine tk 4 ?_
          refine tk 5 ?_
          refine sk 6 ?_
          refine sk 7 ?_
          refine sk 8 ?_
          refine sk 9 ?_
          refine sk 10 ?_
          refine sk 11 ?_
          refine sk 12 ?_
          refine sk 13 ?_
          refine tk 14 ?_
          refine wpAnyH_done (by kernel_rfl) ?_ _
          go_wp2
          exact ⟨⟨i + 1, _, by first | exact up_V (K := 4) HI.out.1 (by omega) | rfl, HI.out.1, HE.out, .inr ⟨_, rfl, HI.out.2.2⟩⟩, by have := HI.out.1; simp [intOf]; omega⟩
      · obtain rfl : i = 4 := by omega
        have HM : Hid (s = ocs (magR [104, 116, 104, 1] bs 0)) := hid_mk (by
          rcases hs with ⟨rfl, hm⟩ | ⟨x, rfl, hm⟩
          · rw [hm]; rfl
          · rw [hm]; rfl)
        have p1 : decide (((4 : Nat) : Int) < 4) = false := by decide
        (try rw [show ((4 : Nat) : Int) = 4 from rfl])
        have HHd := hid_mk hH
        clear hs hH hgo hi4 p1
        go_wp2_with fail
        obtain ⟨gp, hgp⟩ : ∃ gp, wr.heap.size = gp := ⟨_, rfl⟩
        obtain ⟨V5, hV5⟩ : ∃ V, wr.alloc (.cells #[.int .i64 0, .slice none 0 0, .slice none 0 0] 35) = V := ⟨_, rfl⟩
        rw [hV5]
        (try rw [hgp])
        have o5 : Out 0 0 wr V5 := by rw [← hV5]; exact (Out.refl 0 0 wr).alloc _
        have q5 : RdS w V5 b0 (b0 + 1) gp B ba n c bs 0 none 0 0 [] [] none 0 0 [] [] s := by
          obtain ⟨h1, h2, h3, h4, h5, h6⟩ := HHd.out
          exact ⟨h1.kept o5 (.inr (Nat.zero_le _)), by rw [← hV5, ← hgp]; exact Bl.new _ _ _, World.ownsRow_nil _ _ _ 1, ⟨rfl, fun j v t q => by simp at q⟩, rfl, World.ownsRow_nil _ _ _ 4, ⟨rfl, (fun j v t q => by simp at q), fun i j a b k hij q => by simp at q⟩, rfl, h3.quiet o5, h4.trans o5, h5, by omega, by omega, by have := h2.lt; omega⟩
        obtain ⟨M, hM⟩ : ∃ M, magR [104, 116, 104, 1] bs 0 = M := ⟨_, rfl⟩
        obtain ⟨R1, hR1⟩ : ∃ R, stp (numR 0 64) bs (ocs M) = R := ⟨_, rfl⟩
        obtain ⟨R2, hR2⟩ : ∃ R, stp (numR 0 64) bs (ocs R1) = R := ⟨_, rfl⟩
        obtain ⟨RT, hRT⟩ : ∃ R, stp (repR (ocn R2) txtR) bs (ocs R2) = R := ⟨_, rfl⟩
        obtain ⟨R3, hR3⟩ : ∃ R, stp (numR 1 64) bs (ocs RT) = R := ⟨_, rfl⟩
        obtain ⟨RF, hRF⟩ : ∃ R, stp (repR (ocn R3) funR) bs (ocs R3) = R := ⟨_, rfl⟩
        have HPP := hid_mk (prg_parts bs M R1 R2 R3 RT RF hM hR1 hR2 hRT hR3 hRF)
        have HRT := hid_mk hRT
        have HRF := hid_mk hRF
        have HR3 := hid_mk hR3
        have HR2 := hid_mk hR2
        have hN2 : ocn R2 ≤ 64 := by
          rw [← hR2]
          rcases ocs R1 with x | e
          · exact Nat.zero_le _
          · exact ocn_le
        have hN3 : ocn R3 ≤ 64 := by
          rw [← hR3]
          rcases ocs RT with x | e
          · exact Nat.zero_le _
          · exact ocn_leL
        have HNN := hid_mk (And.intro hN2 hN3)
        have HQ5 := hid_mk q5
        have HN1 : Hid (Calls Tryd.prog 31 #[.pointer (some ⟨b0 + 1, 0, none⟩), .int .i64 0, .int .i64 64] V5 (RNQ V5 (b0 + 1) B ba n c bs R1)) := hid_mk (by
          have := rnumber_all q5.2.2.2.2.2.2.2.2.1 0 64 0 64 rfl rfl
          rw [HM.out, hM, hR1] at this
          exact this)
        clear hV5 hgp o5 q5 hM hR1 hR2 hRT hR3 hRF hN2 hN3 HM HHd
        refine HN1.out.mono ?_
        rintro e w6 ⟨rfl, r6, x6⟩
        obtain ⟨v1, hv1⟩ : ∃ v, ocn R1 = v := ⟨_, rfl⟩
        rw [hv1]
        have q6 := HQ5.out.call r6 x6
        have y0 : w6.cell? ⟨gp, 0, none⟩ = some (.int .i64 0) := q6.2.1.cell (i := 0) rfl
        have z0 := q6.2.1.frozen 0
        have HV1 := hid_mk hv1
        have s6 := q6.setX (v1 : Int)
        obtain ⟨V7, hV7⟩ : ∃ V, w6.setCell ⟨gp, 0, none⟩ (.int .i64 (v1 : Int)) = V := ⟨_, rfl⟩
        rw [hV7] at s6
        have HQ7 := hid_mk s6
        have HN2 : Hid (Calls Tryd.prog 31 #[.pointer (some ⟨b0 + 1, 0, none⟩), .int .i64 0, .int .i64 64] V7 (RNQ V7 (b0 + 1) B ba n c bs R2)) := hid_mk (by rw [← HR2.out]; exact rnumber_all s6.2.2.2.2.2.2.2.2.1 0 64 0 64 rfl rfl)
        clear r6 x6 hv1 q6 s6 HN1 HQ5
        go_wp2_with fail
        (try rw [hV7])
        clear hV7 y0 z0
        refine HN2.out.mono ?_
        rintro e w8 ⟨rfl, r8, x8⟩
        obtain ⟨N, hN⟩ : ∃ v, ocn R2 = v := ⟨_, rfl⟩
        rw [hN]
        obtain ⟨s2, hs2⟩ : ∃ s, ocs R2 = s := ⟨_, rfl⟩
        rw [hs2] at r8
        have HT1 : Hid (stp (repR N txtR) bs s2 = RT ∧ N ≤ 64) := hid_mk ⟨by rw [← hN, ← hs2]; exact HRT.out, hN ▸ HNN.out.1⟩
        have HQ8 := hid_mk (HQ7.out.call r8 x8)
        clear r8 x8 hN hs2 HN2 HQ7 HR2 HRT
        go_wp2
        go_loopw [10] (fun nv W => ∃ (i d : Nat) (ts : List (List Int)) (s : Sum (Int × Nat) Nat) (ta : Option Addr) (m tc : Nat) (vs : List Value), nv = .int .i64 (d : Int) ∧ i + d = N ∧ m ≤ i ∧ RdS w W b0 (b0 + 1) gp B ba n c bs (v1 : Int) ta m tc vs ts none 0 0 [] [] s ∧ ((∃ e, s = .inr e ∧ stp (repR i txtR) bs s2 = .inr (ts, e)) ∨ ∃ x, s = .inl x ∧ stp (repR N txtR) bs s2 = .inl x)) (fun nv _ => (intOf nv).toNat)
        case atStart =>
          refine ⟨0, N, [], s2, none, 0, 0, [], rfl, by omega, Nat.le_refl _, HQ8.out, ?_⟩
          rcases s2 with x | e
          · exact .inr ⟨x, rfl, rfl⟩
          · exact .inl ⟨e, rfl, rfl⟩
        case round =>
          obtain ⟨i, d, ts, s, ta, m, tc, vs, rfl, hid, hmi, hF, hs⟩ := hrel
          rcases hs with ⟨e, rfl, hl⟩ | ⟨x, rfl, hl⟩
          · rcases Nat.eq_zero_or_pos d with rfl | hd
            · obtain rfl : i = N := by omega
              have l1 : decide ((0 : Int) < ((0 : Nat) : Int)) = false := by decide
              (try rw [show ((0 : Nat) : Int) = 0 from rfl])
              have hRT : RT = .inr (ts, e) := by rw [← HT1.out.1, hl]
              have hsR : Sum.inr e = ocs RT := by rw [hRT]; rfl
              have HOc : Hid (∀ fs e, RF = .inr (fs, e) → octs RT = ts) := hid_mk (fun _ _ _ => by rw [hRT]; rfl)
              have HN3 : Hid (Calls Tryd.prog 31 #[.pointer (some ⟨b0 + 1, 0, none⟩), .int .i64 1, .int .i64 64] wr (RNQ wr (b0 + 1) B ba n c bs R3)) := hid_mk (by rw [← HR3.out, ← hsR]; exact rnumber_all hF.2.2.2.2.2.2.2.2.1 1 64 1 64 rfl rfl)
              have HQ9 := hid_mk hF
              clear hF hid hmi hl hRT hsR
              go_wp2_with fail
              refine HN3.out.mono ?_
              rintro e9 w8 ⟨rfl, r8, x8⟩
              obtain ⟨N3, hN3⟩ : ∃ v, ocn R3 = v := ⟨_, rfl⟩
              rw [hN3]
              obtain ⟨s3, hs3⟩ : ∃ s, ocs R3 = s := ⟨_, rfl⟩
              rw [hs3] at r8
              have HT3 : Hid (stp (repR N3 funR) bs s3 = RF ∧ N3 ≤ 64) := hid_mk ⟨by rw [← hN3, ← hs3]; exact HRF.out, hN3 ▸ HNN.out.2⟩
              have HQ8 := hid_mk (HQ9.out.call r8 x8)
              clear r8 x8 hN3 hs3 HN3 HQ9
              go_wp2
              go_loopw [12] (fun nv W => ∃ (i d : Nat) (fs : List (Int × Int × Int × List (Int × Int))) (s : Sum (Int × Nat) Nat) (fa : Option Addr) (k fc : Nat) (cs : List Value), nv = .int .i64 (d : Int) ∧ i + d = N3 ∧ k ≤ i ∧ RdS w W b0 (b0 + 1) gp B ba n c bs (v1 : Int) ta m tc vs ts fa k fc cs fs s ∧ ((∃ e, s = .inr e ∧ stp (repR i funR) bs s3 = .inr (fs, e)) ∨ ∃ x, s = .inl x ∧ stp (repR N3 funR) bs s3 = .inl x)) (fun nv _ => (intOf nv).toNat)
              case atStart =>
                refine ⟨0, N3, [], s3, none, 0, 0, [], rfl, by omega, Nat.le_refl _, HQ8.out, ?_⟩
                rcases s3 with x | e
                · exact .inr ⟨x, rfl, rfl⟩
                · exact .inl ⟨e, rfl, rfl⟩
              case round =>
                obtain ⟨i, d, fs, s, fa, k, fc, cs, rfl, hid, hmi, hF, hs⟩ := hrel
                rcases hs with ⟨e, rfl, hl⟩ | ⟨x, rfl, hl⟩
                · rcases Nat.eq_zero_or_pos d with rfl | hd
                  · obtain rfl : i = N3 := by omega
                    have l1 : decide ((0 : Int) < ((0 : Nat) : Int)) = false := by decide
                    (try rw [show ((0 : Nat) : Int) = 0 from rfl])
                    have hRFe : RF = .inr (fs, e) := by rw [← HT3.out.1, hl]
                    have hpr : prgR bs 0 = .inr (((v1 : Int), ts, fs), e) := by rw [HPP.out, hRFe, HV1.out, HOc.out _ _ hRFe]; rfl
                    have hen0 : e ≤ n := hF.2.2.2.2.2.2.2.2.1.2.2.2.2.2.1
                    have k1 : wr.cell? ⟨b0 + 1, 1, none⟩ = some (.int .i64 e) := hF.2.2.2.2.2.2.2.2.1.2.2.2.2.2.2.cell (i := 1) rfl
                    by_cases hen : e < n
                    · obtain ⟨l5, l6⟩ := lt_d hen
                      have HW : Hid (wholeR bs = .inl (60, e) ∧ n ≤ 65536) := hid_mk ⟨whole_left hpr (by have := HS0.out.2.2; omega), HS0.out.2.1⟩
                      have HBd := hid_mk (rbad_ok hF.2.2.2.2.2.2.2.2.1 60 (by decide) e)
                      have HF := hid_mk hF
                      clear hF hid hmi hl hRFe hpr hen0 hen
                      go_wp2_with fail
                      refine HBd.out.mono ?_
                      rintro e9 w9 ⟨rfl, r9, x9⟩
                      have hF := HF.out.call r9 x9
                      obtain ⟨-, -, -, -, -, -, a9, -, b9⟩ := r9
                      have k3 : w9.cell? ⟨b0 + 1, 3, none⟩ = some (.int .i64 60) := b9.cell (i := 3) rfl
                      have k2 : w9.cell? ⟨b0 + 1, 2, none⟩ = some (.int .i64 (e : Int)) := b9.cell (i := 2) rfl
                      clear b9 x9 HBd HF k1
                      have y2 : w9.cell? ⟨b0, 0, none⟩ = some (.int .i64 0) := hF.1.cell (i := 0) rfl
                      have y3 : w9.cell? ⟨b0, 1, none⟩ = some (.slice none 0 0) := hF.1.cell (i := 1) rfl
                      have y4 : w9.cell? ⟨b0, 2, none⟩ = some (.slice none 0 0) := hF.1.cell (i := 2) rfl
                      have oD : Out 0 0 w9 w9.drew := (Out.refl 0 0 _).drew
                      have j2 := oD.cell y2 (.inr (Nat.zero_le _))
                      have j3 := oD.cell y3 (.inr (Nat.zero_le _))
                      have j4 := oD.cell y4 (.inr (Nat.zero_le _))
                      have qD := hF.quiet oD
                      have z0 := qD.1.frozen 0
                      have z1 := qD.1.frozen 1
                      have z2 := qD.1.frozen 2
                      have z3 := hF.1.frozen 0
                      have z4 := hF.1.frozen 1
                      have z5 := hF.1.frozen 2
                      have HD := hid_mk qD
                      clear hF oD qD
                      go_wp2_with fail
                      refine wp_region_held_drew (S := fun w' => w'.cell? ⟨b0 + 1, 2, none⟩ = some (.int .i64 (e : Int)) ∧ w'.cell? ⟨b0 + 1, 3, none⟩ = some (.int .i64 60)) (by kernel_rfl) ?hS65 (fun hHeld => ?rest65)
                      case hS65 => exact ⟨k2, k3⟩
                      refine tk 0 ?_
                      refine tk 1 ?_
                      refine tk 2 ?_
                      refine tk 3 ?_
                      refine tk 4 ?_
                      refine tk 5 ?_
                      refine tk 6 ?_
                      refine tk 7 ?_
                      refine tk 8 ?_
                      refine wpAnyH_ready (rs := [9]) (by kernel_rfl) (by simp) ?_
                      refine AllReadyH.cons rfl (fun KK hK => ?_) AllReadyH.nil
                      simp only [xa, xb, xc]
                      go_simp
                      refine hK.out _ _ ?hS75 (fun hHeld2 => ?rest75)
                      case hS75 => exact ⟨far3 k2 (by omega), far3 k3 (by omega)⟩
                      clear hK KK
                      (try clear hHeld)
                      have hHeld := hHeld2
                      clear hHeld2
                      (try simp only [Act.put, xa, xb, xc, xd, xe, xf])
                      refine tk 10 ?_
                      refine tk 11 ?_
                      refine wpAnyH_done (by kernel_rfl) ?_ _
                      go_wp2
                      obtain ⟨f1, f2, -⟩ := HD.out.fin (.int .i64 0) (.slice none 0 0) (.slice none 0 0) _ rfl
                      exact bodyPost_ret (v := .tuple #[.agg #[.int .i64 0, .slice none 0 0, .slice none 0 0], .int .i64 (e : Int), .int .i64 60]) (results_c2 Tryd.results14 rfl rfl rfl (load_prR f1)) rfl ⟨f2, .inr (.inl ⟨HW.out.2, _, _, HW.out.1, rfl⟩)⟩
                    · obtain rfl : e = n := by omega
                      have l5 : decide ((e : Int) < (e : Int)) = false := by simp
                      have HW : Hid (wholeR bs = .inr ((v1 : Int), ts, fs) ∧ e ≤ 65536) := hid_mk ⟨whole_ok (by rw [hpr, HS0.out.2.2]), HS0.out.2.1⟩
                      have k3 : wr.cell? ⟨b0 + 1, 3, none⟩ = some (.int .i64 0) := hF.2.2.2.2.2.2.2.2.1.2.2.2.2.2.2.cell (i := 3) rfl
                      have x0 : wr.cell? ⟨gp, 0, none⟩ = some (.int .i64 (v1 : Int)) := hF.2.1.cell (i := 0) rfl
                      have x1 : wr.cell? ⟨gp, 1, none⟩ = some (.slice ta m tc) := hF.2.1.cell (i := 1) rfl
                      have x2 : wr.cell? ⟨gp, 2, none⟩ = some (.slice fa k fc) := hF.2.1.cell (i := 2) rfl
                      have y2 : wr.cell? ⟨b0, 0, none⟩ = some (.int .i64 0) := hF.1.cell (i := 0) rfl
                      have y3 : wr.cell? ⟨b0, 1, none⟩ = some (.slice none 0 0) := hF.1.cell (i := 1) rfl
                      have y4 : wr.cell? ⟨b0, 2, none⟩ = some (.slice none 0 0) := hF.1.cell (i := 2) rfl
                      have z0 := hF.1.frozen 0
                      have z1 := hF.1.frozen 1
                      have z2 := hF.1.frozen 2
                      have HF := hid_mk hF
                      clear hF hid hmi hl hRFe hpr hen0 hen
                      go_wp2
                      obtain ⟨f1, f2, f3, f4, f5, f6⟩ := HF.out.fin (.int .i64 (v1 : Int)) (.slice ta m tc) (.slice fa k fc) _ rfl
                      have e5 := HF.out.2.2.2.2.1
                      have e8 := HF.out.2.2.2.2.2.2.2.1
                      subst e5 e8
                      exact bodyPost_ret (v := .tuple #[.agg #[.int .i64 (v1 : Int), .slice ta ts.length tc, .slice fa fs.length fc], .int .i64 0, .int .i64 0]) (results_c2 Tryd.results14 rfl rfl rfl (load_prR f1)) rfl ⟨f2, .inr (.inr ⟨HW.out.2, (v1 : Int), ts, fs, ta, tc, fa, fc, vs, cs, HW.out.1, f3, f4, f5, f6, rfl⟩)⟩
                  · obtain ⟨d, rfl⟩ : ∃ k, d = k + 1 := ⟨d - 1, by omega⟩
                    have l1 : decide ((0 : Int) < ((d + 1 : Nat) : Int)) = true := by simp
                    have l2 : decide (0 < d + 1) = true := by simp
                    have k3 : wr.cell? ⟨b0 + 1, 3, none⟩ = some (.int .i64 0) := hF.2.2.2.2.2.2.2.2.1.2.2.2.2.2.2.cell (i := 3) rfl
                    have d3 : wr.cell? ⟨gp, 2, none⟩ = some (.slice fa k fc) := hF.2.1.cell (i := 2) rfl
                    obtain ⟨V3, hV3⟩ : ∃ V3, wr.drew = V3 := ⟨_, rfl⟩
                    have oV : Out 0 0 wr V3 := by rw [← hV3]; exact (Out.refl 0 0 wr).drew
                    have HFn := hid_mk (qfun_any (hF.quiet oV).2.2.2.2.2.2.2.2.1)
                    have HF : Hid (RdS w V3 b0 (b0 + 1) gp B ba n c bs (v1 : Int) ta m tc vs ts fa k fc cs fs (.inr e) ∧ i + (d + 1) = N3 ∧ k ≤ i ∧ stp (repR i funR) bs s3 = .inr (fs, e)) := hid_mk ⟨hF.quiet oV, hid, hmi, hl⟩
                    have HDn := hid_mk (dn_w (d := d) (by have := HT3.out.2; omega))
                    clear hF hid hmi hl hd oV
                    go_wp2_with fail
                    refine wp_region_T (S := fun w' => w'.cell? ⟨gp, 2, none⟩ = some (.slice fa k fc)) (z := 7) (by kernel_rfl) ?hS78 (fun hHeld => ?rest78)
                    case hS78 => exact d3
                    refine tkT 0 ?_
                    refine tkT 1 ?_
                    refine tkT 2 ?_
                    refine wpAnyT_one (i := 3) (by kernel_rfl) rfl (fun KK hK => ?_)
                    simp only [xa, xb, xc]
                    go_simp
                    (try rw [hV3])
                    refine HFn.out.mono ?_
                    rintro e9 w5 ⟨P, L, C, ca, m5, cc, l, rfl, hln, hown, r5, x5, hv5⟩
                    have q5 := HF.out.1.call r5 x5
                    refine hK.out _ _ ?hS82 (fun hHeld2 => ?rest82)
                    case hS82 => exact q5.2.1.cell (i := 2) rfl
                    clear hK KK
                    (try clear hHeld)
                    have hHeld := hHeld2
                    clear hHeld2
                    (try simp only [Act.put, xa, xb, xc, xd, xe, xf])
                    refine wpAnyT_one (i := 4) (by kernel_rfl) rfl (fun KK hK => ?_)
                    simp only [xa, xb, xc]
                    go_simp
                    obtain ⟨X1, hX1⟩ : ∃ X1, w5.alloc (.cells #[.int .i64 P, .int .i64 L, .int .i64 C, .slice ca m5 cc] 40) = X1 := ⟨_, rfl⟩
                    obtain ⟨t1, ht1⟩ : ∃ t1, w5.heap.size = t1 := ⟨_, rfl⟩
                    rw [hX1, ht1]
                    have o9 : Out 0 0 w5 X1 := by rw [← hX1]; exact (Out.refl 0 0 w5).alloc _
                    have HX1 : Hid (Bl X1 t1 #[.int .i64 P, .int .i64 L, .int .i64 C, .slice ca m5 cc] 40) := hid_mk (by rw [← hX1, ← ht1]; exact Bl.new _ _ _)
                    have q6 := q5.quiet o9
                    clear hX1 ht1
                    refine hK.out _ _ ?hS83 (fun hHeld2 => ?rest83)
                    case hS83 => exact q6.2.1.cell (i := 2) rfl
                    clear hK KK
                    (try clear hHeld)
                    have hHeld := hHeld2
                    clear hHeld2
                    (try simp only [Act.put, xa, xb, xc, xd, xe, xf])
                    refine wpAnyT_one (i := 5) (by kernel_rfl) rfl (fun KK hK => ?_)
                    simp only [xa, xb, xc]
                    obtain ⟨g4, cap4, w6, hr, z1, z2, z3⟩ := mk_apR (m := 1) (c := 1) (zs := [.int .i64 P, .int .i64 L, .int .i64 C, .slice ca m5 cc]) Tryd.underlying33 info_fnX rfl (by decide) (by decide) q6.2.2.2.2.2.1 q6.2.1.lt HX1.out rfl (by intro u hu; simp at hu; rcases hu with rfl | rfl | rfl | rfl <;> rfl) (by have := HF.out.2.2.1; have := HF.out.2.1; have := HT3.out.2; omega) (by decide) (by decide) 33
                    refine app_sr X1 _ _ _ _ rfl _ _ rfl rfl hr ?_
                    refine hK.out _ _ ?hS84 (fun hHeld2 => ?rest84)
                    case hS84 => exact (q6.2.1.fx z2 (fun e => by have := (own_ge q6.2.2.2.2.2.1 e).1; omega)).cell (i := 2) rfl
                    clear hK KK
                    (try clear hHeld)
                    have hHeld := hHeld2
                    clear hHeld2
                    (try simp only [Act.put, xa, xb, xc, xd, xe, xf])
                    refine tkT 6 ?_
                    refine wpAnyT_last (by kernel_rfl) rfl (fun KK hK => ?_)
                    simp only [xa, xb, xc]
                    have s9 := hHeld
                    have z9 := (q6.2.1.fx z2 (fun e => by have := (own_ge q6.2.2.2.2.2.1 e).1; omega)).frozen 2
                    go_simp
                    refine hK.out _ _ ?_
                    clear hK KK
                    (try simp only [Act.put, xa, xb, xc, xd, xe, xf])
                    refine wpAnyT_done (by kernel_rfl) ?_ _
                    have q7 := q6.pushF (N := V3.heap.size) (v := .slice ca m5 cc) (f := (P, L, C, l)) ((cdl_of hown hln HF.out.1.2.1.lt).fx (Q := fun _ => False) (Fx.of_out o9) (fun _ _ q => q)) (fun j a q z5 z6 => HF.out.1.2.2.2.2.2.2.1.lt z5 z6) (fun q hq => (own_ge hown hq).1) z1 z2
                    have HG := hid_mk (And.intro q7 hv5)
                    clear q7 hr z1 z2 z3 q6 q5 o9 HX1 hHeld s9 z9 r5 x5 hv5 hown hln
                    go_wp2
                    obtain ⟨-, hid, hmi, hl⟩ := HF.out
                    refine ⟨⟨i + 1, d, fs ++ [(P, L, C, l)], _, _, k + 1, cap4, _, by rw [HDn.out], by omega, by omega, HG.out.1, ?_⟩, by first | exact dn_m | (rw [HDn.out]; exact dn_m)⟩
                    rcases hi : funR bs e with z | ⟨f, q⟩
                    · exact .inr ⟨z, rfl, rl_err hl hi (by omega)⟩
                    · have := HG.out.2 f q hi
                      subst this
                      exact .inl ⟨q, rfl, rl_up hl hi⟩
                · rcases Nat.eq_zero_or_pos d with rfl | hd
                  · have l1 : decide ((0 : Int) < ((0 : Nat) : Int)) = false := by decide
                    (try rw [show ((0 : Nat) : Int) = 0 from rfl])
                    have hRFe : RF = .inl x := by rw [← HT3.out.1, hl]
                    have HW : Hid (wholeR bs = .inl x ∧ n ≤ 65536) := hid_mk ⟨whole_err (by rw [HPP.out, hRFe]; rfl), HS0.out.2.1⟩
                    have hx0 : x.1 ≠ 0 := hF.2.2.2.2.2.2.2.2.1.2.2.2.2.2.1
                    obtain ⟨a9, hl9, b9⟩ := hF.2.2.2.2.2.2.2.2.1.2.2.2.2.2.2
                    have k1 : wr.cell? ⟨b0 + 1, 1, none⟩ = some (.int .i64 a9) := b9.cell (i := 1) rfl
                    have k2 : wr.cell? ⟨b0 + 1, 2, none⟩ = some (.int .i64 (x.2 : Nat)) := b9.cell (i := 2) rfl
                    have k3 : wr.cell? ⟨b0 + 1, 3, none⟩ = some (.int .i64 x.1) := b9.cell (i := 3) rfl
                    have e0 : (x.1 == 0) = false := by simpa using hx0
                    have e1 : decide (x.1 = 0) = false := by simpa using hx0
                    by_cases hen : a9 < n
                    · obtain ⟨l5, l6⟩ := lt_d hen
                      have HBd := hid_mk (rbad_no hF.2.2.2.2.2.2.2.2.1 60 a9)
                      have HF := hid_mk hF
                      clear hF hid hmi hl hRFe hen b9 hl9 hx0
                      go_wp2_with fail
                      refine HBd.out.mono ?_
                      rintro e9 w9 ⟨rfl, r9, x9⟩
                      have hF := HF.out.call r9 x9
                      obtain ⟨-, -, -, -, -, -, a8, -, b8⟩ := r9
                      replace k3 : w9.cell? ⟨b0 + 1, 3, none⟩ = some (.int .i64 x.1) := b8.cell (i := 3) rfl
                      replace k2 : w9.cell? ⟨b0 + 1, 2, none⟩ = some (.int .i64 (x.2 : Nat)) := b8.cell (i := 2) rfl
                      clear b8 x9 HBd HF k1
                      have y2 : w9.cell? ⟨b0, 0, none⟩ = some (.int .i64 0) := hF.1.cell (i := 0) rfl
                      have y3 : w9.cell? ⟨b0, 1, none⟩ = some (.slice none 0 0) := hF.1.cell (i := 1) rfl
                      have y4 : w9.cell? ⟨b0, 2, none⟩ = some (.slice none 0 0) := hF.1.cell (i := 2) rfl
                      have oD : Out 0 0 w9 w9.drew := (Out.refl 0 0 _).drew
                      have j2 := oD.cell y2 (.inr (Nat.zero_le _))
                      have j3 := oD.cell y3 (.inr (Nat.zero_le _))
                      have j4 := oD.cell y4 (.inr (Nat.zero_le _))
                      have qD := hF.quiet oD
                      have z0 := qD.1.frozen 0
                      have z1 := qD.1.frozen 1
                      have z2 := qD.1.frozen 2
                      have z3 := hF.1.frozen 0
                      have z4 := hF.1.frozen 1
                      have z5 := hF.1.frozen 2
                      have HD := hid_mk qD
                      clear hF oD qD
                      go_wp2_with fail
                      refine wp_region_held_drew (S := fun w' => w'.cell? ⟨b0 + 1, 2, none⟩ = some (.int .i64 (x.2 : Nat)) ∧ w'.cell? ⟨b0 + 1, 3, none⟩ = some (.int .i64 x.1)) (by kernel_rfl) ?hS86 (fun hHeld => ?rest86)
                      case hS86 => exact ⟨k2, k3⟩
                      refine tk 0 ?_
                      refine tk 1 ?_
                      refine tk 2 ?_
                      refine tk 3 ?_
                      refine tk 4 ?_
                      refine tk 5 ?_
                      refine tk 6 ?_
                      refine tk 7 ?_
                      refine tk 8 ?_
                      refine wpAnyH_ready (rs := [9]) (by kernel_rfl) (by simp) ?_
                      refine AllReadyH.cons rfl (fun KK hK => ?_) AllReadyH.nil
                      simp only [xa, xb, xc]
                      go_simp
                      refine hK.out _ _ ?hS96 (fun hHeld2 => ?rest96)
                      case hS96 => exact ⟨far3 k2 (by omega), far3 k3 (by omega)⟩
                      clear hK KK
                      (try clear hHeld)
                      have hHeld := hHeld2
                      clear hHeld2
                      (try simp only [Act.put, xa, xb, xc, xd, xe, xf])
                      refine tk 10 ?_
                      refine tk 11 ?_
                      refine wpAnyH_done (by kernel_rfl) ?_ _
                      go_wp2
                      obtain ⟨f1, f2, -⟩ := HD.out.fin (.int .i64 0) (.slice none 0 0) (.slice none 0 0) _ rfl
                      exact bodyPost_ret (v := .tuple #[.agg #[.int .i64 0, .slice none 0 0, .slice none 0 0], .int .i64 (x.2 : Nat), .int .i64 x.1]) (results_c2 Tryd.results14 rfl rfl rfl (load_prR f1)) rfl ⟨f2, .inr (.inl ⟨HW.out.2, _, _, HW.out.1, rfl⟩)⟩
                    · have l5 : decide ((a9 : Int) < (n : Int)) = false := by simp; omega
                      have l6 : decide (a9 < n) = false := by simp; omega
                      clear hid hmi hl hRFe hen b9 hl9 hx0
                      have y2 : wr.cell? ⟨b0, 0, none⟩ = some (.int .i64 0) := hF.1.cell (i := 0) rfl
                      have y3 : wr.cell? ⟨b0, 1, none⟩ = some (.slice none 0 0) := hF.1.cell (i := 1) rfl
                      have y4 : wr.cell? ⟨b0, 2, none⟩ = some (.slice none 0 0) := hF.1.cell (i := 2) rfl
                      have oD : Out 0 0 wr wr.drew := (Out.refl 0 0 _).drew
                      have j2 := oD.cell y2 (.inr (Nat.zero_le _))
                      have j3 := oD.cell y3 (.inr (Nat.zero_le _))
                      have j4 := oD.cell y4 (.inr (Nat.zero_le _))
                      have qD := hF.quiet oD
                      have z0 := qD.1.frozen 0
                      have z1 := qD.1.frozen 1
                      have z2 := qD.1.frozen 2
                      have z3 := hF.1.frozen 0
                      have z4 := hF.1.frozen 1
                      have z5 := hF.1.frozen 2
                      have HD := hid_mk qD
                      clear hF oD qD
                      go_wp2_with fail
                      refine wp_region_held_drew (S := fun w' => w'.cell? ⟨b0 + 1, 2, none⟩ = some (.int .i64 (x.2 : Nat)) ∧ w'.cell? ⟨b0 + 1, 3, none⟩ = some (.int .i64 x.1)) (by kernel_rfl) ?hS99 (fun hHeld => ?rest99)
                      case hS99 => exact ⟨k2, k3⟩
                      refine tk 0 ?_
                      refine tk 1 ?_
                      refine tk 2 ?_
                      refine tk 3 ?_
                      refine tk 4 ?_
                      refine tk 5 ?_
                      refine tk 6 ?_
                      refine tk 7 ?_
                      refine tk 8 ?_
                      refine wpAnyH_ready (rs := [9]) (by kernel_rfl) (by simp) ?_
                      refine AllReadyH.cons rfl (fun KK hK => ?_) AllReadyH.nil
                      simp only [xa, xb, xc]
                      go_simp
                      refine hK.out _ _ ?hS109 (fun hHeld2 => ?rest109)
                      case hS109 => exact ⟨far3 k2 (by omega), far3 k3 (by omega)⟩
                      clear hK KK
                      (try clear hHeld)
                      have hHeld := hHeld2
                      clear hHeld2
                      (try simp only [Act.put, xa, xb, xc, xd, xe, xf])
                      refine tk 10 ?_
                      refine tk 11 ?_
                      refine wpAnyH_done (by kernel_rfl) ?_ _
                      go_wp2
                      obtain ⟨f1, f2, -⟩ := HD.out.fin (.int .i64 0) (.slice none 0 0) (.slice none 0 0) _ rfl
                      exact bodyPost_ret (v := .tuple #[.agg #[.int .i64 0, .slice none 0 0, .slice none 0 0], .int .i64 (x.2 : Nat), .int .i64 x.1]) (results_c2 Tryd.results14 rfl rfl rfl (load_prR f1)) rfl ⟨f2, .inr (.inl ⟨HW.out.2, _, _, HW.out.1, rfl⟩)⟩
                  · obtain ⟨d, rfl⟩ : ∃ k, d = k + 1 := ⟨d - 1, by omega⟩
                    have l1 : decide ((0 : Int) < ((d + 1 : Nat) : Int)) = true := by simp
                    have l2 : decide (0 < d + 1) = true := by simp
                    obtain ⟨a9, hl9, b9⟩ := hF.2.2.2.2.2.2.2.2.1.2.2.2.2.2.2
                    have hx0 : x.1 ≠ 0 := hF.2.2.2.2.2.2.2.2.1.2.2.2.2.2.1
                    have k3 : wr.cell? ⟨b0 + 1, 3, none⟩ = some (.int .i64 x.1) := b9.cell (i := 3) rfl
                    have e0 : (x.1 == 0) = false := by simpa using hx0
                    have e1 : decide (x.1 = 0) = false := by simpa using hx0
                    clear b9 hx0 hl9
                    have hRFe : RF = .inl x := by rw [← HT3.out.1, hl]
                    have HW : Hid (wholeR bs = .inl x ∧ n ≤ 65536) := hid_mk ⟨whole_err (by rw [HPP.out, hRFe]; rfl), HS0.out.2.1⟩
                    have hx0 : x.1 ≠ 0 := hF.2.2.2.2.2.2.2.2.1.2.2.2.2.2.1
                    obtain ⟨a9, hl9, b9⟩ := hF.2.2.2.2.2.2.2.2.1.2.2.2.2.2.2
                    have k1 : wr.cell? ⟨b0 + 1, 1, none⟩ = some (.int .i64 a9) := b9.cell (i := 1) rfl
                    have k2 : wr.cell? ⟨b0 + 1, 2, none⟩ = some (.int .i64 (x.2 : Nat)) := b9.cell (i := 2) rfl
                    have k3 : wr.cell? ⟨b0 + 1, 3, none⟩ = some (.int .i64 x.1) := b9.cell (i := 3) rfl
                    have e0 : (x.1 == 0) = false := by simpa using hx0
                    have e1 : decide (x.1 = 0) = false := by simpa using hx0
                    by_cases hen : a9 < n
                    · obtain ⟨l5, l6⟩ := lt_d hen
                      have HBd := hid_mk (rbad_no hF.2.2.2.2.2.2.2.2.1 60 a9)
                      have HF := hid_mk hF
                      clear hF hid hmi hl hRFe hen b9 hl9 hx0
                      go_wp2_with fail
                      refine HBd.out.mono ?_
                      rintro e9 w9 ⟨rfl, r9, x9⟩
                      have hF := HF.out.call r9 x9
                      obtain ⟨-, -, -, -, -, -, a8, -, b8⟩ := r9
                      replace k3 : w9.cell? ⟨b0 + 1, 3, none⟩ = some (.int .i64 x.1) := b8.cell (i := 3) rfl
                      replace k2 : w9.cell? ⟨b0 + 1, 2, none⟩ = some (.int .i64 (x.2 : Nat)) := b8.cell (i := 2) rfl
                      clear b8 x9 HBd HF k1
                      have y2 : w9.cell? ⟨b0, 0, none⟩ = some (.int .i64 0) := hF.1.cell (i := 0) rfl
                      have y3 : w9.cell? ⟨b0, 1, none⟩ = some (.slice none 0 0) := hF.1.cell (i := 1) rfl
                      have y4 : w9.cell? ⟨b0, 2, none⟩ = some (.slice none 0 0) := hF.1.cell (i := 2) rfl
                      have oD : Out 0 0 w9 w9.drew := (Out.refl 0 0 _).drew
                      have j2 := oD.cell y2 (.inr (Nat.zero_le _))
                      have j3 := oD.cell y3 (.inr (Nat.zero_le _))
                      have j4 := oD.cell y4 (.inr (Nat.zero_le _))
                      have qD := hF.quiet oD
                      have z0 := qD.1.frozen 0
                      have z1 := qD.1.frozen 1
                      have z2 := qD.1.frozen 2
                      have z3 := hF.1.frozen 0
                      have z4 := hF.1.frozen 1
                      have z5 := hF.1.frozen 2
                      have HD := hid_mk qD
                      clear hF oD qD
                      go_wp2_with fail
                      refine wp_region_held_drew (S := fun w' => w'.cell? ⟨b0 + 1, 2, none⟩ = some (.int .i64 (x.2 : Nat)) ∧ w'.cell? ⟨b0 + 1, 3, none⟩ = some (.int .i64 x.1)) (by kernel_rfl) ?hS112 (fun hHeld => ?rest112)
                      case hS112 => exact ⟨k2, k3⟩
                      refine tk 0 ?_
                      refine tk 1 ?_
                      refine tk 2 ?_
                      refine tk 3 ?_
                      refine tk 4 ?_
                      refine tk 5 ?_
                      refine tk 6 ?_
                      refine tk 7 ?_
                      refine tk 8 ?_
                      refine wpAnyH_ready (rs := [9]) (by kernel_rfl) (by simp) ?_
                      refine AllReadyH.cons rfl (fun KK hK => ?_) AllReadyH.nil
                      simp only [xa, xb, xc]
                      go_simp
                      refine hK.out _ _ ?hS122 (fun hHeld2 => ?rest122)
                      case hS122 => exact ⟨far3 k2 (by omega), far3 k3 (by omega)⟩
                      clear hK KK
                      (try clear hHeld)
                      have hHeld := hHeld2
                      clear hHeld2
                      (try simp only [Act.put, xa, xb, xc, xd, xe, xf])
                      refine tk 10 ?_
                      refine tk 11 ?_
                      refine wpAnyH_done (by kernel_rfl) ?_ _
                      go_wp2
                      obtain ⟨f1, f2, -⟩ := HD.out.fin (.int .i64 0) (.slice none 0 0) (.slice none 0 0) _ rfl
                      exact bodyPost_ret (v := .tuple #[.agg #[.int .i64 0, .slice none 0 0, .slice none 0 0], .int .i64 (x.2 : Nat), .int .i64 x.1]) (results_c2 Tryd.results14 rfl rfl rfl (load_prR f1)) rfl ⟨f2, .inr (.inl ⟨HW.out.2, _, _, HW.out.1, rfl⟩)⟩
                    · have l5 : decide ((a9 : Int) < (n : Int)) = false := by simp; omega
                      have l6 : decide (a9 < n) = false := by simp; omega
                      clear hid hmi hl hRFe hen b9 hl9 hx0
                      have y2 : wr.cell? ⟨b0, 0, none⟩ = some (.int .i64 0) := hF.1.cell (i := 0) rfl
                      have y3 : wr.cell? ⟨b0, 1, none⟩ = some (.slice none 0 0) := hF.1.cell (i := 1) rfl
                      have y4 : wr.cell? ⟨b0, 2, none⟩ = some (.slice none 0 0) := hF.1.cell (i := 2) rfl
                      have oD : Out 0 0 wr wr.drew := (Out.refl 0 0 _).drew
                      have j2 := oD.cell y2 (.inr (Nat.zero_le _))
                      have j3 := oD.cell y3 (.inr (Nat.zero_le _))
                      have j4 := oD.cell y4 (.inr (Nat.zero_le _))
                      have qD := hF.quiet oD
                      have z0 := qD.1.frozen 0
                      have z1 := qD.1.frozen 1
                      have z2 := qD.1.frozen 2
                      have z3 := hF.1.frozen 0
                      have z4 := hF.1.frozen 1
                      have z5 := hF.1.frozen 2
                      have HD := hid_mk qD
                      clear hF oD qD
                      go_wp2_with fail
                      refine wp_region_held_drew (S := fun w' => w'.cell? ⟨b0 + 1, 2, none⟩ = some (.int .i64 (x.2 : Nat)) ∧ w'.cell? ⟨b0 + 1, 3, none⟩ = some (.int .i64 x.1)) (by kernel_rfl) ?hS125 (fun hHeld => ?rest125)
                      case hS125 => exact ⟨k2, k3⟩
                      refine tk 0 ?_
                      refine tk 1 ?_
                      refine tk 2 ?_
                      refine tk 3 ?_
                      refine tk 4 ?_
                      refine tk 5 ?_
                      refine tk 6 ?_
                      refine tk 7 ?_
                      refine tk 8 ?_
                      refine wpAnyH_ready (rs := [9]) (by kernel_rfl) (by simp) ?_
                      refine AllReadyH.cons rfl (fun KK hK => ?_) AllReadyH.nil
                      simp only [xa, xb, xc]
                      go_simp
                      refine hK.out _ _ ?hS135 (fun hHeld2 => ?rest135)
                      case hS135 => exact ⟨far3 k2 (by omega), far3 k3 (by omega)⟩
                      clear hK KK
                      (try clear hHeld)
                      have hHeld := hHeld2
                      clear hHeld2
                      (try simp only [Act.put, xa, xb, xc, xd, xe, xf])
                      refine tk 10 ?_
                      refine tk 11 ?_
                      refine wpAnyH_done (by kernel_rfl) ?_ _
                      go_wp2
                      obtain ⟨f1, f2, -⟩ := HD.out.fin (.int .i64 0) (.slice none 0 0) (.slice none 0 0) _ rfl
                      exact bodyPost_ret (v := .tuple #[.agg #[.int .i64 0, .slice none 0 0, .slice none 0 0], .int .i64 (x.2 : Nat), .int .i64 x.1]) (results_c2 Tryd.results14 rfl rfl rfl (load_prR f1)) rfl ⟨f2, .inr (.inl ⟨HW.out.2, _, _, HW.out.1, rfl⟩)⟩
            · obtain ⟨d, rfl⟩ : ∃ k, d = k + 1 := ⟨d - 1, by omega⟩
              have l1 : decide ((0 : Int) < ((d + 1 : Nat) : Int)) = true := by simp
              have l2 : decide (0 < d + 1) = true := by simp
              have k3 : wr.cell? ⟨b0 + 1, 3, none⟩ = some (.int .i64 0) := hF.2.2.2.2.2.2.2.2.1.2.2.2.2.2.2.cell (i := 3) rfl
              have d3 : wr.cell? ⟨gp, 1, none⟩ = some (.slice ta m tc) := hF.2.1.cell (i := 1) rfl
              have HNm := hid_mk (rnumber_any hF.2.2.2.2.2.2.2.2.1 0 4096 0 4096 rfl rfl)
              have HF : Hid (RdS w wr b0 (b0 + 1) gp B ba n c bs (v1 : Int) ta m tc vs ts none 0 0 [] [] (.inr e) ∧ i + (d + 1) = N ∧ m ≤ i ∧ stp (repR i txtR) bs s2 = .inr (ts, e)) := hid_mk ⟨hF, hid, hmi, hl⟩
              have hdn := dn_w (d := d) (by have := HT1.out.2; omega)
              have HDn := hid_mk hdn
              clear hF hid hmi hl hd hdn d3
              go_wp2_with fail
              refine HNm.out.mono ?_
              rintro e9 w2 ⟨rfl, r2, x2⟩
              obtain ⟨v, hv⟩ : ∃ v, ocn (numR 0 4096 bs e) = v := ⟨_, rfl⟩
              rw [hv]
              have HPt := hid_mk (rpart_all r2 v)
              have H2 := hid_mk (And.intro (HF.out.1.call r2 x2) hv)
              clear r2 x2 hv HNm k3
              go_wp2_with fail
              refine HPt.out.mono ?_
              rintro e9 w3 ⟨A3, C3, t, rfl, hby, r3, x3, htn, ht⟩
              obtain ⟨k, hk⟩ : ∃ k, t.length = k := ⟨_, rfl⟩
              rw [hk]
              have q3 := H2.out.1.call r3 x3
              have es : stp (takeR v) bs (ocs (numR 0 4096 bs e)) = txtR bs e := by rw [txt_stp, H2.out.2]
              rw [es] at q3 ht
              obtain ⟨V3, hV3⟩ : ∃ V3, w3.drew = V3 := ⟨_, rfl⟩
              have oV : Out 0 0 w3 V3 := by rw [← hV3]; exact (Out.refl 0 0 w3).drew
              have q4 := q3.quiet oV
              have d3 : w3.cell? ⟨gp, 1, none⟩ = some (.slice ta m tc) := q3.2.1.cell (i := 1) rfl
              have hkn : k ≤ 65536 := by have := q3.2.2.2.2.2.2.2.2.1.2.2.2.2.1; omega
              obtain ⟨a1, p1, w4, hr1, g1, o1⟩ := cp_at (w := V3) (c := C3) Tryd.underlying22 info_u8 rfl (by decide) (by decide) (by_src (hby.kept (C := B) (Lo.of_out oV) (Nat.le_refl _)) hk) (by rw [bvs_len, hk, Nat.mul_one]) bvs_one (by omega) 22
              have q5 := q4.quiet o1
              have H5 := hid_mk (And.intro q5 (And.intro g1 (And.intro hk (And.intro hby.1 (And.intro ht q4.2.1.lt)))))
              have HR1 := hid_mk hr1
              clear r3 x3 hby htn hkn es q3 q4 q5 ht oV o1 g1 hr1 hk HPt
              go_wp2_with fail
              refine wp_region_T (S := fun w' => w'.cell? ⟨gp, 1, none⟩ = some (.slice ta m tc)) (z := 7) (by kernel_rfl) ?hS138 (fun hHeld => ?rest138)
              case hS138 => exact d3
              refine tkT 0 ?_
              refine tkT 1 ?_
              refine tkT 2 ?_
              refine wpAnyT_one (i := 3) (by kernel_rfl) rfl (fun KK hK => ?_)
              simp only [xa, xb, xc]
              (try rw [hV3])
              refine app_sr V3 _ _ _ _ rfl _ _ rfl rfl HR1.out ?_
              refine hK.out _ _ ?hS142 (fun hHeld2 => ?rest142)
              case hS142 => exact H5.out.1.2.1.cell (i := 1) rfl
              clear hK KK
              (try clear hHeld)
              have hHeld := hHeld2
              clear hHeld2
              (try simp only [Act.put, xa, xb, xc, xd, xe, xf])
              refine wpAnyT_one (i := 4) (by kernel_rfl) rfl (fun KK hK => ?_)
              simp only [xa, xb, xc]
              go_simp
              obtain ⟨X1, hX1⟩ : ∃ X1, w4.alloc (.cells #[.slice a1 k p1] 22) = X1 := ⟨_, rfl⟩
              obtain ⟨t1, ht1⟩ : ∃ t1, w4.heap.size = t1 := ⟨_, rfl⟩
              rw [hX1, ht1]
              have o9 : Out 0 0 w4 X1 := by rw [← hX1]; exact (Out.refl 0 0 w4).alloc _
              have HX1 : Hid (Bl X1 t1 #[.slice a1 k p1] 22) := hid_mk (by rw [← hX1, ← ht1]; exact Bl.new _ _ _)
              have q6 := H5.out.1.quiet o9
              clear hX1 ht1
              refine hK.out _ _ ?hS143 (fun hHeld2 => ?rest143)
              case hS143 => exact q6.2.1.cell (i := 1) rfl
              clear hK KK
              (try clear hHeld)
              have hHeld := hHeld2
              clear hHeld2
              (try simp only [Act.put, xa, xb, xc, xd, xe, xf])
              refine wpAnyT_one (i := 5) (by kernel_rfl) rfl (fun KK hK => ?_)
              simp only [xa, xb, xc]
              obtain ⟨g4, cap4, w6, hr, z1, z2, z3⟩ := mk_apR (m := 1) (c := 1) (zs := [.slice a1 k p1]) Tryd.underlying25 info_bs rfl (by decide) (by decide) q6.2.2.1 q6.2.1.lt HX1.out rfl (by intro u hu; simp at hu; subst hu; rfl) (by have := HF.out.2.2.1; have := HF.out.2.1; have := HT1.out.2; omega) (by decide) (by decide) 25
              refine app_sr X1 _ _ _ _ rfl _ _ rfl rfl hr ?_
              refine hK.out _ _ ?hS144 (fun hHeld2 => ?rest144)
              case hS144 => exact (q6.2.1.fx z2 (fun e => by have := (own_ge q6.2.2.1 e).1; omega)).cell (i := 1) rfl
              clear hK KK
              (try clear hHeld)
              have hHeld := hHeld2
              clear hHeld2
              (try simp only [Act.put, xa, xb, xc, xd, xe, xf])
              refine tkT 6 ?_
              refine wpAnyT_last (by kernel_rfl) rfl (fun KK hK => ?_)
              simp only [xa, xb, xc]
              have s9 := hHeld
              have z9 := (q6.2.1.fx z2 (fun e => by have := (own_ge q6.2.2.1 e).1; omega)).frozen 1
              go_simp
              refine hK.out _ _ ?_
              clear hK KK
              (try simp only [Act.put, xa, xb, xc, xd, xe, xf])
              refine wpAnyT_done (by kernel_rfl) ?_ _
              have q7 := q6.pushT (v := .slice a1 k p1) (t := t) ((txl_of H5.out.2.1 H5.out.2.2.1 H5.out.2.2.2.2.2 H5.out.2.2.2.1).fx (Q := fun _ => False) (Fx.of_out o9) (fun _ _ q => q)) z1 z2
              have HG := hid_mk q7
              clear q7 hr z1 z2 z3 q6 o9 HX1 hHeld s9 z9
              go_wp2
              obtain ⟨-, hid, hmi, hl⟩ := HF.out
              refine ⟨⟨i + 1, d, ts ++ [t], _, _, m + 1, cap4, _, by rw [HDn.out], by omega, by omega, HG.out, ?_⟩, by first | exact dn_m | (rw [HDn.out]; exact dn_m)⟩
              rcases hi : txtR bs e with z | ⟨t0, q⟩
              · exact .inr ⟨z, rfl, rl_err hl hi (by omega)⟩
              · have := H5.out.2.2.2.2.1 t0 q hi
                subst this
                exact .inl ⟨q, rfl, rl_up hl hi⟩
          · rcases Nat.eq_zero_or_pos d with rfl | hd
            · have l1 : decide ((0 : Int) < ((0 : Nat) : Int)) = false := by decide
              (try rw [show ((0 : Nat) : Int) = 0 from rfl])
              have hRT : RT = .inl x := by rw [← HT1.out.1, hl]
              have hsR : Sum.inl x = ocs RT := by rw [hRT]; rfl
              have HOc : Hid (∀ fs e, RF = .inr (fs, e) → octs RT = ts) := hid_mk (fun fs e h => by have h1 := HRF.out; rw [← HR3.out, ← hsR] at h1; rw [h] at h1; cases h1)
              have HN3 : Hid (Calls Tryd.prog 31 #[.pointer (some ⟨b0 + 1, 0, none⟩), .int .i64 1, .int .i64 64] wr (RNQ wr (b0 + 1) B ba n c bs R3)) := hid_mk (by rw [← HR3.out, ← hsR]; exact rnumber_all hF.2.2.2.2.2.2.2.2.1 1 64 1 64 rfl rfl)
              have HQ9 := hid_mk hF
              clear hF hid hmi hl hRT hsR
              go_wp2_with fail
              refine HN3.out.mono ?_
              rintro e9 w8 ⟨rfl, r8, x8⟩
              obtain ⟨N3, hN3⟩ : ∃ v, ocn R3 = v := ⟨_, rfl⟩
              rw [hN3]
              obtain ⟨s3, hs3⟩ : ∃ s, ocs R3 = s := ⟨_, rfl⟩
              rw [hs3] at r8
              have HT3 : Hid (stp (repR N3 funR) bs s3 = RF ∧ N3 ≤ 64) := hid_mk ⟨by rw [← hN3, ← hs3]; exact HRF.out, hN3 ▸ HNN.out.2⟩
              have HQ8 := hid_mk (HQ9.out.call r8 x8)
              clear r8 x8 hN3 hs3 HN3 HQ9
              go_wp2
              go_loopw [12] (fun nv W => ∃ (i d : Nat) (fs : List (Int × Int × Int × List (Int × Int))) (s : Sum (Int × Nat) Nat) (fa : Option Addr) (k fc : Nat) (cs : List Value), nv = .int .i64 (d : Int) ∧ i + d = N3 ∧ k ≤ i ∧ RdS w W b0 (b0 + 1) gp B ba n c bs (v1 : Int) ta m tc vs ts fa k fc cs fs s ∧ ((∃ e, s = .inr e ∧ stp (repR i funR) bs s3 = .inr (fs, e)) ∨ ∃ x, s = .inl x ∧ stp (repR N3 funR) bs s3 = .inl x)) (fun nv _ => (intOf nv).toNat)
              case atStart =>
                refine ⟨0, N3, [], s3, none, 0, 0, [], rfl, by omega, Nat.le_refl _, HQ8.out, ?_⟩
                rcases s3 with x | e
                · exact .inr ⟨x, rfl, rfl⟩
                · exact .inl ⟨e, rfl, rfl⟩
              case round =>
                obtain ⟨i, d, fs, s, fa, k, fc, cs, rfl, hid, hmi, hF, hs⟩ := hrel
                rcases hs with ⟨e, rfl, hl⟩ | ⟨x, rfl, hl⟩
                · rcases Nat.eq_zero_or_pos d with rfl | hd
                  · obtain rfl : i = N3 := by omega
                    have l1 : decide ((0 : Int) < ((0 : Nat) : Int)) = false := by decide
                    (try rw [show ((0 : Nat) : Int) = 0 from rfl])
                    have hRFe : RF = .inr (fs, e) := by rw [← HT3.out.1, hl]
                    have hpr : prgR bs 0 = .inr (((v1 : Int), ts, fs), e) := by rw [HPP.out, hRFe, HV1.out, HOc.out _ _ hRFe]; rfl
                    have hen0 : e ≤ n := hF.2.2.2.2.2.2.2.2.1.2.2.2.2.2.1
                    have k1 : wr.cell? ⟨b0 + 1, 1, none⟩ = some (.int .i64 e) := hF.2.2.2.2.2.2.2.2.1.2.2.2.2.2.2.cell (i := 1) rfl
                    by_cases hen : e < n
                    · obtain ⟨l5, l6⟩ := lt_d hen
                      have HW : Hid (wholeR bs = .inl (60, e) ∧ n ≤ 65536) := hid_mk ⟨whole_left hpr (by have := HS0.out.2.2; omega), HS0.out.2.1⟩
                      have HBd := hid_mk (rbad_ok hF.2.2.2.2.2.2.2.2.1 60 (by decide) e)
                      have HF := hid_mk hF
                      clear hF hid hmi hl hRFe hpr hen0 hen
                      go_wp2_with fail
                      refine HBd.out.mono ?_
                      rintro e9 w9 ⟨rfl, r9, x9⟩
                      have hF := HF.out.call r9 x9
                      obtain ⟨-, -, -, -, -, -, a9, -, b9⟩ := r9
                      have k3 : w9.cell? ⟨b0 + 1, 3, none⟩ = some (.int .i64 60) := b9.cell (i := 3) rfl
                      have k2 : w9.cell? ⟨b0 + 1, 2, none⟩ = some (.int .i64 (e : Int)) := b9.cell (i := 2) rfl
                      clear b9 x9 HBd HF k1
                      have y2 : w9.cell? ⟨b0, 0, none⟩ = some (.int .i64 0) := hF.1.cell (i := 0) rfl
                      have y3 : w9.cell? ⟨b0, 1, none⟩ = some (.slice none 0 0) := hF.1.cell (i := 1) rfl
                      have y4 : w9.cell? ⟨b0, 2, none⟩ = some (.slice none 0 0) := hF.1.cell (i := 2) rfl
                      have oD : Out 0 0 w9 w9.drew := (Out.refl 0 0 _).drew
                      have j2 := oD.cell y2 (.inr (Nat.zero_le _))
                      have j3 := oD.cell y3 (.inr (Nat.zero_le _))
                      have j4 := oD.cell y4 (.inr (Nat.zero_le _))
                      have qD := hF.quiet oD
                      have z0 := qD.1.frozen 0
                      have z1 := qD.1.frozen 1
                      have z2 := qD.1.frozen 2
                      have z3 := hF.1.frozen 0
                      have z4 := hF.1.frozen 1
                      have z5 := hF.1.frozen 2
                      have HD := hid_mk qD
                      clear hF oD qD
                      go_wp2_with fail
                      refine wp_region_held_drew (S := fun w' => w'.cell? ⟨b0 + 1, 2, none⟩ = some (.int .i64 (e : Int)) ∧ w'.cell? ⟨b0 + 1, 3, none⟩ = some (.int .i64 60)) (by kernel_rfl) ?hS146 (fun hHeld => ?rest146)
                      case hS146 => exact ⟨k2, k3⟩
                      refine tk 0 ?_
                      refine tk 1 ?_
                      refine tk 2 ?_
                      refine tk 3 ?_
                      refine tk 4 ?_
                      refine tk 5 ?_
                      refine tk 6 ?_
                      refine tk 7 ?_
                      refine tk 8 ?_
                      refine wpAnyH_ready (rs := [9]) (by kernel_rfl) (by simp) ?_
                      refine AllReadyH.cons rfl (fun KK hK => ?_) AllReadyH.nil
                      simp only [xa, xb, xc]
                      go_simp
                      refine hK.out _ _ ?hS156 (fun hHeld2 => ?rest156)
                      case hS156 => exact ⟨far3 k2 (by omega), far3 k3 (by omega)⟩
                      clear hK KK
                      (try clear hHeld)
                      have hHeld := hHeld2
                      clear hHeld2
                      (try simp only [Act.put, xa, xb, xc, xd, xe, xf])
                      refine tk 10 ?_
                      refine tk 11 ?_
                      refine wpAnyH_done (by kernel_rfl) ?_ _
                      go_wp2
                      obtain ⟨f1, f2, -⟩ := HD.out.fin (.int .i64 0) (.slice none 0 0) (.slice none 0 0) _ rfl
                      exact bodyPost_ret (v := .tuple #[.agg #[.int .i64 0, .slice none 0 0, .slice none 0 0], .int .i64 (e : Int), .int .i64 60]) (results_c2 Tryd.results14 rfl rfl rfl (load_prR f1)) rfl ⟨f2, .inr (.inl ⟨HW.out.2, _, _, HW.out.1, rfl⟩)⟩
                    · obtain rfl : e = n := by omega
                      have l5 : decide ((e : Int) < (e : Int)) = false := by simp
                      have HW : Hid (wholeR bs = .inr ((v1 : Int), ts, fs) ∧ e ≤ 65536) := hid_mk ⟨whole_ok (by rw [hpr, HS0.out.2.2]), HS0.out.2.1⟩
                      have k3 : wr.cell? ⟨b0 + 1, 3, none⟩ = some (.int .i64 0) := hF.2.2.2.2.2.2.2.2.1.2.2.2.2.2.2.cell (i := 3) rfl
                      have x0 : wr.cell? ⟨gp, 0, none⟩ = some (.int .i64 (v1 : Int)) := hF.2.1.cell (i := 0) rfl
                      have x1 : wr.cell? ⟨gp, 1, none⟩ = some (.slice ta m tc) := hF.2.1.cell (i := 1) rfl
                      have x2 : wr.cell? ⟨gp, 2, none⟩ = some (.slice fa k fc) := hF.2.1.cell (i := 2) rfl
                      have y2 : wr.cell? ⟨b0, 0, none⟩ = some (.int .i64 0) := hF.1.cell (i := 0) rfl
                      have y3 : wr.cell? ⟨b0, 1, none⟩ = some (.slice none 0 0) := hF.1.cell (i := 1) rfl
                      have y4 : wr.cell? ⟨b0, 2, none⟩ = some (.slice none 0 0) := hF.1.cell (i := 2) rfl
                      have z0 := hF.1.frozen 0
                      have z1 := hF.1.frozen 1
                      have z2 := hF.1.frozen 2
                      have HF := hid_mk hF
                      clear hF hid hmi hl hRFe hpr hen0 hen
                      go_wp2
                      obtain ⟨f1, f2, f3, f4, f5, f6⟩ := HF.out.fin (.int .i64 (v1 : Int)) (.slice ta m tc) (.slice fa k fc) _ rfl
                      have e5 := HF.out.2.2.2.2.1
                      have e8 := HF.out.2.2.2.2.2.2.2.1
                      subst e5 e8
                      exact bodyPost_ret (v := .tuple #[.agg #[.int .i64 (v1 : Int), .slice ta ts.length tc, .slice fa fs.length fc], .int .i64 0, .int .i64 0]) (results_c2 Tryd.results14 rfl rfl rfl (load_prR f1)) rfl ⟨f2, .inr (.inr ⟨HW.out.2, (v1 : Int), ts, fs, ta, tc, fa, fc, vs, cs, HW.out.1, f3, f4, f5, f6, rfl⟩)⟩
                  · obtain ⟨d, rfl⟩ : ∃ k, d = k + 1 := ⟨d - 1, by omega⟩
                    have l1 : decide ((0 : Int) < ((d + 1 : Nat) : Int)) = true := by simp
                    have l2 : decide (0 < d + 1) = true := by simp
                    have k3 : wr.cell? ⟨b0 + 1, 3, none⟩ = some (.int .i64 0) := hF.2.2.2.2.2.2.2.2.1.2.2.2.2.2.2.cell (i := 3) rfl
                    have d3 : wr.cell? ⟨gp, 2, none⟩ = some (.slice fa k fc) := hF.2.1.cell (i := 2) rfl
                    obtain ⟨V3, hV3⟩ : ∃ V3, wr.drew = V3 := ⟨_, rfl⟩
                    have oV : Out 0 0 wr V3 := by rw [← hV3]; exact (Out.refl 0 0 wr).drew
                    have HFn := hid_mk (qfun_any (hF.quiet oV).2.2.2.2.2.2.2.2.1)
                    have HF : Hid (RdS w V3 b0 (b0 + 1) gp B ba n c bs (v1 : Int) ta m tc vs ts fa k fc cs fs (.inr e) ∧ i + (d + 1) = N3 ∧ k ≤ i ∧ stp (repR i funR) bs s3 = .inr (fs, e)) := hid_mk ⟨hF.quiet oV, hid, hmi, hl⟩
                    have HDn := hid_mk (dn_w (d := d) (by have := HT3.out.2; omega))
                    clear hF hid hmi hl hd oV
                    go_wp2_with fail
                    refine wp_region_T (S := fun w' => w'.cell? ⟨gp, 2, none⟩ = some (.slice fa k fc)) (z := 7) (by kernel_rfl) ?hS159 (fun hHeld => ?rest159)
                    case hS159 => exact d3
                    refine tkT 0 ?_
                    refine tkT 1 ?_
                    refine tkT 2 ?_
                    refine wpAnyT_one (i := 3) (by kernel_rfl) rfl (fun KK hK => ?_)
                    simp only [xa, xb, xc]
                    go_simp
                    (try rw [hV3])
                    refine HFn.out.mono ?_
                    rintro e9 w5 ⟨P, L, C, ca, m5, cc, l, rfl, hln, hown, r5, x5, hv5⟩
                    have q5 := HF.out.1.call r5 x5
                    refine hK.out _ _ ?hS163 (fun hHeld2 => ?rest163)
                    case hS163 => exact q5.2.1.cell (i := 2) rfl
                    clear hK KK
                    (try clear hHeld)
                    have hHeld := hHeld2
                    clear hHeld2
                    (try simp only [Act.put, xa, xb, xc, xd, xe, xf])
                    refine wpAnyT_one (i := 4) (by kernel_rfl) rfl (fun KK hK => ?_)
                    simp only [xa, xb, xc]
                    go_simp
                    obtain ⟨X1, hX1⟩ : ∃ X1, w5.alloc (.cells #[.int .i64 P, .int .i64 L, .int .i64 C, .slice ca m5 cc] 40) = X1 := ⟨_, rfl⟩
                    obtain ⟨t1, ht1⟩ : ∃ t1, w5.heap.size = t1 := ⟨_, rfl⟩
                    rw [hX1, ht1]
                    have o9 : Out 0 0 w5 X1 := by rw [← hX1]; exact (Out.refl 0 0 w5).alloc _
                    have HX1 : Hid (Bl X1 t1 #[.int .i64 P, .int .i64 L, .int .i64 C, .slice ca m5 cc] 40) := hid_mk (by rw [← hX1, ← ht1]; exact Bl.new _ _ _)
                    have q6 := q5.quiet o9
                    clear hX1 ht1
                    refine hK.out _ _ ?hS164 (fun hHeld2 => ?rest164)
                    case hS164 => exact q6.2.1.cell (i := 2) rfl
                    clear hK KK
                    (try clear hHeld)
                    have hHeld := hHeld2
                    clear hHeld2
                    (try simp only [Act.put, xa, xb, xc, xd, xe, xf])
                    refine wpAnyT_one (i := 5) (by kernel_rfl) rfl (fun KK hK => ?_)
                    simp only [xa, xb, xc]
                    obtain ⟨g4, cap4, w6, hr, z1, z2, z3⟩ := mk_apR (m := 1) (c := 1) (zs := [.int .i64 P, .int .i64 L, .int .i64 C, .slice ca m5 cc]) Tryd.underlying33 info_fnX rfl (by decide) (by decide) q6.2.2.2.2.2.1 q6.2.1.lt HX1.out rfl (by intro u hu; simp at hu; rcases hu with rfl | rfl | rfl | rfl <;> rfl) (by have := HF.out.2.2.1; have := HF.out.2.1; have := HT3.out.2; omega) (by decide) (by decide) 33
                    refine app_sr X1 _ _ _ _ rfl _ _ rfl rfl hr ?_
                    refine hK.out _ _ ?hS165 (fun hHeld2 => ?rest165)
                    case hS165 => exact (q6.2.1.fx z2 (fun e => by have := (own_ge q6.2.2.2.2.2.1 e).1; omega)).cell (i := 2) rfl
                    clear hK KK
                    (try clear hHeld)
                    have hHeld := hHeld2
                    clear hHeld2
                    (try simp only [Act.put, xa, xb, xc, xd, xe, xf])
                    refine tkT 6 ?_
                    refine wpAnyT_last (by kernel_rfl) rfl (fun KK hK => ?_)
                    simp only [xa, xb, xc]
                    have s9 := hHeld
                    have z9 := (q6.2.1.fx z2 (fun e => by have := (own_ge q6.2.2.2.2.2.1 e).1; omega)).frozen 2
                    go_simp
                    refine hK.out _ _ ?_
                    clear hK KK
                    (try simp only [Act.put, xa, xb, xc, xd, xe, xf])
                    refine wpAnyT_done (by kernel_rfl) ?_ _
                    have q7 := q6.pushF (N := V3.heap.size) (v := .slice ca m5 cc) (f := (P, L, C, l)) ((cdl_of hown hln HF.out.1.2.1.lt).fx (Q := fun _ => False) (Fx.of_out o9) (fun _ _ q => q)) (fun j a q z5 z6 => HF.out.1.2.2.2.2.2.2.1.lt z5 z6) (fun q hq => (own_ge hown hq).1) z1 z2
                    have HG := hid_mk (And.intro q7 hv5)
                    clear q7 hr z1 z2 z3 q6 q5 o9 HX1 hHeld s9 z9 r5 x5 hv5 hown hln
                    go_wp2
                    obtain ⟨-, hid, hmi, hl⟩ := HF.out
                    refine ⟨⟨i + 1, d, fs ++ [(P, L, C, l)], _, _, k + 1, cap4, _, by rw [HDn.out], by omega, by omega, HG.out.1, ?_⟩, by first | exact dn_m | (rw [HDn.out]; exact dn_m)⟩
                    rcases hi : funR bs e with z | ⟨f, q⟩
                    · exact .inr ⟨z, rfl, rl_err hl hi (by omega)⟩
                    · have := HG.out.2 f q hi
                      subst this
                      exact .inl ⟨q, rfl, rl_up hl hi⟩
                · rcases Nat.eq_zero_or_pos d with rfl | hd
                  · have l1 : decide ((0 : Int) < ((0 : Nat) : Int)) = false := by decide
                    (try rw [show ((0 : Nat) : Int) = 0 from rfl])
                    have hRFe : RF = .inl x := by rw [← HT3.out.1, hl]
                    have HW : Hid (wholeR bs = .inl x ∧ n ≤ 65536) := hid_mk ⟨whole_err (by rw [HPP.out, hRFe]; rfl), HS0.out.2.1⟩
                    have hx0 : x.1 ≠ 0 := hF.2.2.2.2.2.2.2.2.1.2.2.2.2.2.1
                    obtain ⟨a9, hl9, b9⟩ := hF.2.2.2.2.2.2.2.2.1.2.2.2.2.2.2
                    have k1 : wr.cell? ⟨b0 + 1, 1, none⟩ = some (.int .i64 a9) := b9.cell (i := 1) rfl
                    have k2 : wr.cell? ⟨b0 + 1, 2, none⟩ = some (.int .i64 (x.2 : Nat)) := b9.cell (i := 2) rfl
                    have k3 : wr.cell? ⟨b0 + 1, 3, none⟩ = some (.int .i64 x.1) := b9.cell (i := 3) rfl
                    have e0 : (x.1 == 0) = false := by simpa using hx0
                    have e1 : decide (x.1 = 0) = false := by simpa using hx0
                    by_cases hen : a9 < n
                    · obtain ⟨l5, l6⟩ := lt_d hen
                      have HBd := hid_mk (rbad_no hF.2.2.2.2.2.2.2.2.1 60 a9)
                      have HF := hid_mk hF
                      clear hF hid hmi hl hRFe hen b9 hl9 hx0
                      go_wp2_with fail
                      refine HBd.out.mono ?_
                      rintro e9 w9 ⟨rfl, r9, x9⟩
                      have hF := HF.out.call r9 x9
                      obtain ⟨-, -, -, -, -, -, a8, -, b8⟩ := r9
                      replace k3 : w9.cell? ⟨b0 + 1, 3, none⟩ = some (.int .i64 x.1) := b8.cell (i := 3) rfl
                      replace k2 : w9.cell? ⟨b0 + 1, 2, none⟩ = some (.int .i64 (x.2 : Nat)) := b8.cell (i := 2) rfl
                      clear b8 x9 HBd HF k1
                      have y2 : w9.cell? ⟨b0, 0, none⟩ = some (.int .i64 0) := hF.1.cell (i := 0) rfl
                      have y3 : w9.cell? ⟨b0, 1, none⟩ = some (.slice none 0 0) := hF.1.cell (i := 1) rfl
                      have y4 : w9.cell? ⟨b0, 2, none⟩ = some (.slice none 0 0) := hF.1.cell (i := 2) rfl
                      have oD : Out 0 0 w9 w9.drew := (Out.refl 0 0 _).drew
                      have j2 := oD.cell y2 (.inr (Nat.zero_le _))
                      have j3 := oD.cell y3 (.inr (Nat.zero_le _))
                      have j4 := oD.cell y4 (.inr (Nat.zero_le _))
                      have qD := hF.quiet oD
                      have z0 := qD.1.frozen 0
                      have z1 := qD.1.frozen 1
                      have z2 := qD.1.frozen 2
                      have z3 := hF.1.frozen 0
                      have z4 := hF.1.frozen 1
                      have z5 := hF.1.frozen 2
                      have HD := hid_mk qD
                      clear hF oD qD
                      go_wp2_with fail
                      refine wp_region_held_drew (S := fun w' => w'.cell? ⟨b0 + 1, 2, none⟩ = some (.int .i64 (x.2 : Nat)) ∧ w'.cell? ⟨b0 + 1, 3, none⟩ = some (.int .i64 x.1)) (by kernel_rfl) ?hS167 (fun hHeld => ?rest167)
                      case hS167 => exact ⟨k2, k3⟩
                      refine tk 0 ?_
                      refine tk 1 ?_
                      refine tk 2 ?_
                      refine tk 3 ?_
                      refine tk 4 ?_
                      refine tk 5 ?_
                      refine tk 6 ?_
                      refine tk 7 ?_
                      refine tk 8 ?_
                      refine wpAnyH_ready (rs := [9]) (by kernel_rfl) (by simp) ?_
                      refine AllReadyH.cons rfl (fun KK hK => ?_) AllReadyH.nil
                      simp only [xa, xb, xc]
                      go_simp
                      refine hK.out _ _ ?hS177 (fun hHeld2 => ?rest177)
                      case hS177 => exact ⟨far3 k2 (by omega), far3 k3 (by omega)⟩
                      clear hK KK
                      (try clear hHeld)
                      have hHeld := hHeld2
                      clear hHeld2
                      (try simp only [Act.put, xa, xb, xc, xd, xe, xf])
                      refine tk 10 ?_
                      refine tk 11 ?_
                      refine wpAnyH_done (by kernel_rfl) ?_ _
                      go_wp2
                      obtain ⟨f1, f2, -⟩ := HD.out.fin (.int .i64 0) (.slice none 0 0) (.slice none 0 0) _ rfl
                      exact bodyPost_ret (v := .tuple #[.agg #[.int .i64 0, .slice none 0 0, .slice none 0 0], .int .i64 (x.2 : Nat), .int .i64 x.1]) (results_c2 Tryd.results14 rfl rfl rfl (load_prR f1)) rfl ⟨f2, .inr (.inl ⟨HW.out.2, _, _, HW.out.1, rfl⟩)⟩
                    · have l5 : decide ((a9 : Int) < (n : Int)) = false := by simp; omega
                      have l6 : decide (a9 < n) = false := by simp; omega
                      clear hid hmi hl hRFe hen b9 hl9 hx0
                      have y2 : wr.cell? ⟨b0, 0, none⟩ = some (.int .i64 0) := hF.1.cell (i := 0) rfl
                      have y3 : wr.cell? ⟨b0, 1, none⟩ = some (.slice none 0 0) := hF.1.cell (i := 1) rfl
                      have y4 : wr.cell? ⟨b0, 2, none⟩ = some (.slice none 0 0) := hF.1.cell (i := 2) rfl
                      have oD : Out 0 0 wr wr.drew := (Out.refl 0 0 _).drew
                      have j2 := oD.cell y2 (.inr (Nat.zero_le _))
                      have j3 := oD.cell y3 (.inr (Nat.zero_le _))
                      have j4 := oD.cell y4 (.inr (Nat.zero_le _))
                      have qD := hF.quiet oD
                      have z0 := qD.1.frozen 0
                      have z1 := qD.1.frozen 1
                      have z2 := qD.1.frozen 2
                      have z3 := hF.1.frozen 0
                      have z4 := hF.1.frozen 1
                      have z5 := hF.1.frozen 2
                      have HD := hid_mk qD
                      clear hF oD qD
                      go_wp2_with fail
                      refine wp_region_held_drew (S := fun w' => w'.cell? ⟨b0 + 1, 2, none⟩ = some (.int .i64 (x.2 : Nat)) ∧ w'.cell? ⟨b0 + 1, 3, none⟩ = some (.int .i64 x.1)) (by kernel_rfl) ?hS180 (fun hHeld => ?rest180)
                      case hS180 => exact ⟨k2, k3⟩
                      refine tk 0 ?_
                      refine tk 1 ?_
                      refine tk 2 ?_
                      refine tk 3 ?_
                      refine tk 4 ?_
                      refine tk 5 ?_
                      refine tk 6 ?_
                      refine tk 7 ?_
                      refine tk 8 ?_
                      refine wpAnyH_ready (rs := [9]) (by kernel_rfl) (by simp) ?_
                      refine AllReadyH.cons rfl (fun KK hK => ?_) AllReadyH.nil
                      simp only [xa, xb, xc]
                      go_simp
                      refine hK.out _ _ ?hS190 (fun hHeld2 => ?rest190)
                      case hS190 => exact ⟨far3 k2 (by omega), far3 k3 (by omega)⟩
                      clear hK KK
                      (try clear hHeld)
                      have hHeld := hHeld2
                      clear hHeld2
                      (try simp only [Act.put, xa, xb, xc, xd, xe, xf])
                      refine tk 10 ?_
                      refine tk 11 ?_
                      refine wpAnyH_done (by kernel_rfl) ?_ _
                      go_wp2
                      obtain ⟨f1, f2, -⟩ := HD.out.fin (.int .i64 0) (.slice none 0 0) (.slice none 0 0) _ rfl
                      exact bodyPost_ret (v := .tuple #[.agg #[.int .i64 0, .slice none 0 0, .slice none 0 0], .int .i64 (x.2 : Nat), .int .i64 x.1]) (results_c2 Tryd.results14 rfl rfl rfl (load_prR f1)) rfl ⟨f2, .inr (.inl ⟨HW.out.2, _, _, HW.out.1, rfl⟩)⟩
                  · obtain ⟨d, rfl⟩ : ∃ k, d = k + 1 := ⟨d - 1, by omega⟩
                    have l1 : decide ((0 : Int) < ((d + 1 : Nat) : Int)) = true := by simp
                    have l2 : decide (0 < d + 1) = true := by simp
                    obtain ⟨a9, hl9, b9⟩ := hF.2.2.2.2.2.2.2.2.1.2.2.2.2.2.2
                    have hx0 : x.1 ≠ 0 := hF.2.2.2.2.2.2.2.2.1.2.2.2.2.2.1
                    have k3 : wr.cell? ⟨b0 + 1, 3, none⟩ = some (.int .i64 x.1) := b9.cell (i := 3) rfl
                    have e0 : (x.1 == 0) = false := by simpa using hx0
                    have e1 : decide (x.1 = 0) = false := by simpa using hx0
                    clear b9 hx0 hl9
                    have hRFe : RF = .inl x := by rw [← HT3.out.1, hl]
                    have HW : Hid (wholeR bs = .inl x ∧ n ≤ 65536) := hid_mk ⟨whole_err (by rw [HPP.out, hRFe]; rfl), HS0.out.2.1⟩
                    have hx0 : x.1 ≠ 0 := hF.2.2.2.2.2.2.2.2.1.2.2.2.2.2.1
                    obtain ⟨a9, hl9, b9⟩ := hF.2.2.2.2.2.2.2.2.1.2.2.2.2.2.2
                    have k1 : wr.cell? ⟨b0 + 1, 1, none⟩ = some (.int .i64 a9) := b9.cell (i := 1) rfl
                    have k2 : wr.cell? ⟨b0 + 1, 2, none⟩ = some (.int .i64 (x.2 : Nat)) := b9.cell (i := 2) rfl
                    have k3 : wr.cell? ⟨b0 + 1, 3, none⟩ = some (.int .i64 x.1) := b9.cell (i := 3) rfl
                    have e0 : (x.1 == 0) = false := by simpa using hx0
                    have e1 : decide (x.1 = 0) = false := by simpa using hx0
                    by_cases hen : a9 < n
                    · obtain ⟨l5, l6⟩ := lt_d hen
                      have HBd := hid_mk (rbad_no hF.2.2.2.2.2.2.2.2.1 60 a9)
                      have HF := hid_mk hF
                      clear hF hid hmi hl hRFe hen b9 hl9 hx0
                      go_wp2_with fail
                      refine HBd.out.mono ?_
                      rintro e9 w9 ⟨rfl, r9, x9⟩
                      have hF := HF.out.call r9 x9
                      obtain ⟨-, -, -, -, -, -, a8, -, b8⟩ := r9
                      replace k3 : w9.cell? ⟨b0 + 1, 3, none⟩ = some (.int .i64 x.1) := b8.cell (i := 3) rfl
                      replace k2 : w9.cell? ⟨b0 + 1, 2, none⟩ = some (.int .i64 (x.2 : Nat)) := b8.cell (i := 2) rfl
                      clear b8 x9 HBd HF k1
                      have y2 : w9.cell? ⟨b0, 0, none⟩ = some (.int .i64 0) := hF.1.cell (i := 0) rfl
                      have y3 : w9.cell? ⟨b0, 1, none⟩ = some (.slice none 0 0) := hF.1.cell (i := 1) rfl
                      have y4 : w9.cell? ⟨b0, 2, none⟩ = some (.slice none 0 0) := hF.1.cell (i := 2) rfl
                      have oD : Out 0 0 w9 w9.drew := (Out.refl 0 0 _).drew
                      have j2 := oD.cell y2 (.inr (Nat.zero_le _))
                      have j3 := oD.cell y3 (.inr (Nat.zero_le _))
                      have j4 := oD.cell y4 (.inr (Nat.zero_le _))
                      have qD := hF.quiet oD
                      have z0 := qD.1.frozen 0
                      have z1 := qD.1.frozen 1
                      have z2 := qD.1.frozen 2
                      have z3 := hF.1.frozen 0
                      have z4 := hF.1.frozen 1
                      have z5 := hF.1.frozen 2
                      have HD := hid_mk qD
                      clear hF oD qD
                      go_wp2_with fail
                      refine wp_region_held_drew (S := fun w' => w'.cell? ⟨b0 + 1, 2, none⟩ = some (.int .i64 (x.2 : Nat)) ∧ w'.cell? ⟨b0 + 1, 3, none⟩ = some (.int .i64 x.1)) (by kernel_rfl) ?hS193 (fun hHeld => ?rest193)
                      case hS193 => exact ⟨k2, k3⟩
                      refine tk 0 ?_
                      refine tk 1 ?_
                      refine tk 2 ?_
                      refine tk 3 ?_
                      refine tk 4 ?_
                      refine tk 5 ?_
                      refine tk 6 ?_
                      refine tk 7 ?_
                      refine tk 8 ?_
                      refine wpAnyH_ready (rs := [9]) (by kernel_rfl) (by simp) ?_
                      refine AllReadyH.cons rfl (fun KK hK => ?_) AllReadyH.nil
                      simp only [xa, xb, xc]
                      go_simp
                      refine hK.out _ _ ?hS203 (fun hHeld2 => ?rest203)
                      case hS203 => exact ⟨far3 k2 (by omega), far3 k3 (by omega)⟩
                      clear hK KK
                      (try clear hHeld)
                      have hHeld := hHeld2
                      clear hHeld2
                      (try simp only [Act.put, xa, xb, xc, xd, xe, xf])
                      refine tk 10 ?_
                      refine tk 11 ?_
                      refine wpAnyH_done (by kernel_rfl) ?_ _
                      go_wp2
                      obtain ⟨f1, f2, -⟩ := HD.out.fin (.int .i64 0) (.slice none 0 0) (.slice none 0 0) _ rfl
                      exact bodyPost_ret (v := .tuple #[.agg #[.int .i64 0, .slice none 0 0, .slice none 0 0], .int .i64 (x.2 : Nat), .int .i64 x.1]) (results_c2 Tryd.results14 rfl rfl rfl (load_prR f1)) rfl ⟨f2, .inr (.inl ⟨HW.out.2, _, _, HW.out.1, rfl⟩)⟩
                    · have l5 : decide ((a9 : Int) < (n : Int)) = false := by simp; omega
                      have l6 : decide (a9 < n) = false := by simp; omega
                      clear hid hmi hl hRFe hen b9 hl9 hx0
                      have y2 : wr.cell? ⟨b0, 0, none⟩ = some (.int .i64 0) := hF.1.cell (i := 0) rfl
                      have y3 : wr.cell? ⟨b0, 1, none⟩ = some (.slice none 0 0) := hF.1.cell (i := 1) rfl
                      have y4 : wr.cell? ⟨b0, 2, none⟩ = some (.slice none 0 0) := hF.1.cell (i := 2) rfl
                      have oD : Out 0 0 wr wr.drew := (Out.refl 0 0 _).drew
                      have j2 := oD.cell y2 (.inr (Nat.zero_le _))
                      have j3 := oD.cell y3 (.inr (Nat.zero_le _))
                      have j4 := oD.cell y4 (.inr (Nat.zero_le _))
                      have qD := hF.quiet oD
                      have z0 := qD.1.frozen 0
                      have z1 := qD.1.frozen 1
                      have z2 := qD.1.frozen 2
                      have z3 := hF.1.frozen 0
                      have z4 := hF.1.frozen 1
                      have z5 := hF.1.frozen 2
                      have HD := hid_mk qD
                      clear hF oD qD
                      go_wp2_with fail
                      refine wp_region_held_drew (S := fun w' => w'.cell? ⟨b0 + 1, 2, none⟩ = some (.int .i64 (x.2 : Nat)) ∧ w'.cell? ⟨b0 + 1, 3, none⟩ = some (.int .i64 x.1)) (by kernel_rfl) ?hS206 (fun hHeld => ?rest206)
                      case hS206 => exact ⟨k2, k3⟩
                      refine tk 0 ?_
                      refine tk 1 ?_
                      refine tk 2 ?_
                      refine tk 3 ?_
                      refine tk 4 ?_
                      refine tk 5 ?_
                      refine tk 6 ?_
                      refine tk 7 ?_
                      refine tk 8 ?_
                      refine wpAnyH_ready (rs := [9]) (by kernel_rfl) (by simp) ?_
                      refine AllReadyH.cons rfl (fun KK hK => ?_) AllReadyH.nil
                      simp only [xa, xb, xc]
                      go_simp
                      refine hK.out _ _ ?hS216 (fun hHeld2 => ?rest216)
                      case hS216 => exact ⟨far3 k2 (by omega), far3 k3 (by omega)⟩
                      clear hK KK
                      (try clear hHeld)
                      have hHeld := hHeld2
                      clear hHeld2
                      (try simp only [Act.put, xa, xb, xc, xd, xe, xf])
                      refine tk 10 ?_
                      refine tk 11 ?_
                      refine wpAnyH_done (by kernel_rfl) ?_ _
                      go_wp2
                      obtain ⟨f1, f2, -⟩ := HD.out.fin (.int .i64 0) (.slice none 0 0) (.slice none 0 0) _ rfl
                      exact bodyPost_ret (v := .tuple #[.agg #[.int .i64 0, .slice none 0 0, .slice none 0 0], .int .i64 (x.2 : Nat), .int .i64 x.1]) (results_c2 Tryd.results14 rfl rfl rfl (load_prR f1)) rfl ⟨f2, .inr (.inl ⟨HW.out.2, _, _, HW.out.1, rfl⟩)⟩
            · obtain ⟨d, rfl⟩ : ∃ k, d = k + 1 := ⟨d - 1, by omega⟩
              have l1 : decide ((0 : Int) < ((d + 1 : Nat) : Int)) = true := by simp
              have l2 : decide (0 < d + 1) = true := by simp
              obtain ⟨a9, hl9, b9⟩ := hF.2.2.2.2.2.2.2.2.1.2.2.2.2.2.2
              have hx0 : x.1 ≠ 0 := hF.2.2.2.2.2.2.2.2.1.2.2.2.2.2.1
              have k3 : wr.cell? ⟨b0 + 1, 3, none⟩ = some (.int .i64 x.1) := b9.cell (i := 3) rfl
              have e0 : (x.1 == 0) = false := by simpa using hx0
              have e1 : decide (x.1 = 0) = false := by simpa using hx0
              clear b9 hx0 hl9
              have hRT : RT = .inl x := by rw [← HT1.out.1, hl]
              have hsR : Sum.inl x = ocs RT := by rw [hRT]; rfl
              have HOc : Hid (∀ fs e, RF = .inr (fs, e) → octs RT = ts) := hid_mk (fun fs e h => by have h1 := HRF.out; rw [← HR3.out, ← hsR] at h1; rw [h] at h1; cases h1)
              have HN3 : Hid (Calls Tryd.prog 31 #[.pointer (some ⟨b0 + 1, 0, none⟩), .int .i64 1, .int .i64 64] wr (RNQ wr (b0 + 1) B ba n c bs R3)) := hid_mk (by rw [← HR3.out, ← hsR]; exact rnumber_all hF.2.2.2.2.2.2.2.2.1 1 64 1 64 rfl rfl)
              have HQ9 := hid_mk hF
              clear hF hid hmi hl hRT hsR
              go_wp2_with fail
              refine HN3.out.mono ?_
              rintro e9 w8 ⟨rfl, r8, x8⟩
              obtain ⟨N3, hN3⟩ : ∃ v, ocn R3 = v := ⟨_, rfl⟩
              rw [hN3]
              obtain ⟨s3, hs3⟩ : ∃ s, ocs R3 = s := ⟨_, rfl⟩
              rw [hs3] at r8
              have HT3 : Hid (stp (repR N3 funR) bs s3 = RF ∧ N3 ≤ 64) := hid_mk ⟨by rw [← hN3, ← hs3]; exact HRF.out, hN3 ▸ HNN.out.2⟩
              have HQ8 := hid_mk (HQ9.out.call r8 x8)
              clear r8 x8 hN3 hs3 HN3 HQ9
              go_wp2
              go_loopw [12] (fun nv W => ∃ (i d : Nat) (fs : List (Int × Int × Int × List (Int × Int))) (s : Sum (Int × Nat) Nat) (fa : Option Addr) (k fc : Nat) (cs : List Value), nv = .int .i64 (d : Int) ∧ i + d = N3 ∧ k ≤ i ∧ RdS w W b0 (b0 + 1) gp B ba n c bs (v1 : Int) ta m tc vs ts fa k fc cs fs s ∧ ((∃ e, s = .inr e ∧ stp (repR i funR) bs s3 = .inr (fs, e)) ∨ ∃ x, s = .inl x ∧ stp (repR N3 funR) bs s3 = .inl x)) (fun nv _ => (intOf nv).toNat)
              case atStart =>
                refine ⟨0, N3, [], s3, none, 0, 0, [], rfl, by omega, Nat.le_refl _, HQ8.out, ?_⟩
                rcases s3 with x | e
                · exact .inr ⟨x, rfl, rfl⟩
                · exact .inl ⟨e, rfl, rfl⟩
              case round =>
                obtain ⟨i, d, fs, s, fa, k, fc, cs, rfl, hid, hmi, hF, hs⟩ := hrel
                rcases hs with ⟨e, rfl, hl⟩ | ⟨x, rfl, hl⟩
                · rcases Nat.eq_zero_or_pos d with rfl | hd
                  · obtain rfl : i = N3 := by omega
                    have l1 : decide ((0 : Int) < ((0 : Nat) : Int)) = false := by decide
                    (try rw [show ((0 : Nat) : Int) = 0 from rfl])
                    have hRFe : RF = .inr (fs, e) := by rw [← HT3.out.1, hl]
                    have hpr : prgR bs 0 = .inr (((v1 : Int), ts, fs), e) := by rw [HPP.out, hRFe, HV1.out, HOc.out _ _ hRFe]; rfl
                    have hen0 : e ≤ n := hF.2.2.2.2.2.2.2.2.1.2.2.2.2.2.1
                    have k1 : wr.cell? ⟨b0 + 1, 1, none⟩ = some (.int .i64 e) := hF.2.2.2.2.2.2.2.2.1.2.2.2.2.2.2.cell (i := 1) rfl
                    by_cases hen : e < n
                    · obtain ⟨l5, l6⟩ := lt_d hen
                      have HW : Hid (wholeR bs = .inl (60, e) ∧ n ≤ 65536) := hid_mk ⟨whole_left hpr (by have := HS0.out.2.2; omega), HS0.out.2.1⟩
                      have HBd := hid_mk (rbad_ok hF.2.2.2.2.2.2.2.2.1 60 (by decide) e)
                      have HF := hid_mk hF
                      clear hF hid hmi hl hRFe hpr hen0 hen
                      go_wp2_with fail
                      refine HBd.out.mono ?_
                      rintro e9 w9 ⟨rfl, r9, x9⟩
                      have hF := HF.out.call r9 x9
                      obtain ⟨-, -, -, -, -, -, a9, -, b9⟩ := r9
                      have k3 : w9.cell? ⟨b0 + 1, 3, none⟩ = some (.int .i64 60) := b9.cell (i := 3) rfl
                      have k2 : w9.cell? ⟨b0 + 1, 2, none⟩ = some (.int .i64 (e : Int)) := b9.cell (i := 2) rfl
                      clear b9 x9 HBd HF k1
                      have y2 : w9.cell? ⟨b0, 0, none⟩ = some (.int .i64 0) := hF.1.cell (i := 0) rfl
                      have y3 : w9.cell? ⟨b0, 1, none⟩ = some (.slice none 0 0) := hF.1.cell (i := 1) rfl
                      have y4 : w9.cell? ⟨b0, 2, none⟩ = some (.slice none 0 0) := hF.1.cell (i := 2) rfl
                      have oD : Out 0 0 w9 w9.drew := (Out.refl 0 0 _).drew
                      have j2 := oD.cell y2 (.inr (Nat.zero_le _))
                      have j3 := oD.cell y3 (.inr (Nat.zero_le _))
                      have j4 := oD.cell y4 (.inr (Nat.zero_le _))
                      have qD := hF.quiet oD
                      have z0 := qD.1.frozen 0
                      have z1 := qD.1.frozen 1
                      have z2 := qD.1.frozen 2
                      have z3 := hF.1.frozen 0
                      have z4 := hF.1.frozen 1
                      have z5 := hF.1.frozen 2
                      have HD := hid_mk qD
                      clear hF oD qD
                      go_wp2_with fail
                      refine wp_region_held_drew (S := fun w' => w'.cell? ⟨b0 + 1, 2, none⟩ = some (.int .i64 (e : Int)) ∧ w'.cell? ⟨b0 + 1, 3, none⟩ = some (.int .i64 60)) (by kernel_rfl) ?hS219 (fun hHeld => ?rest219)
                      case hS219 => exact ⟨k2, k3⟩
                      refine tk 0 ?_
                      refine tk 1 ?_
                      refine tk 2 ?_
                      refine tk 3 ?_
                      refine tk 4 ?_
                      refine tk 5 ?_
                      refine tk 6 ?_
                      refine tk 7 ?_
                      refine tk 8 ?_
                      refine wpAnyH_ready (rs := [9]) (by kernel_rfl) (by simp) ?_
                      refine AllReadyH.cons rfl (fun KK hK => ?_) AllReadyH.nil
                      simp only [xa, xb, xc]
                      go_simp
                      refine hK.out _ _ ?hS229 (fun hHeld2 => ?rest229)
                      case hS229 => exact ⟨far3 k2 (by omega), far3 k3 (by omega)⟩
                      clear hK KK
                      (try clear hHeld)
                      have hHeld := hHeld2
                      clear hHeld2
                      (try simp only [Act.put, xa, xb, xc, xd, xe, xf])
                      refine tk 10 ?_
                      refine tk 11 ?_
                      refine wpAnyH_done (by kernel_rfl) ?_ _
                      go_wp2
                      obtain ⟨f1, f2, -⟩ := HD.out.fin (.int .i64 0) (.slice none 0 0) (.slice none 0 0) _ rfl
                      exact bodyPost_ret (v := .tuple #[.agg #[.int .i64 0, .slice none 0 0, .slice none 0 0], .int .i64 (e : Int), .int .i64 60]) (results_c2 Tryd.results14 rfl rfl rfl (load_prR f1)) rfl ⟨f2, .inr (.inl ⟨HW.out.2, _, _, HW.out.1, rfl⟩)⟩
                    · obtain rfl : e = n := by omega
                      have l5 : decide ((e : Int) < (e : Int)) = false := by simp
                      have HW : Hid (wholeR bs = .inr ((v1 : Int), ts, fs) ∧ e ≤ 65536) := hid_mk ⟨whole_ok (by rw [hpr, HS0.out.2.2]), HS0.out.2.1⟩
                      have k3 : wr.cell? ⟨b0 + 1, 3, none⟩ = some (.int .i64 0) := hF.2.2.2.2.2.2.2.2.1.2.2.2.2.2.2.cell (i := 3) rfl
                      have x0 : wr.cell? ⟨gp, 0, none⟩ = some (.int .i64 (v1 : Int)) := hF.2.1.cell (i := 0) rfl
                      have x1 : wr.cell? ⟨gp, 1, none⟩ = some (.slice ta m tc) := hF.2.1.cell (i := 1) rfl
                      have x2 : wr.cell? ⟨gp, 2, none⟩ = some (.slice fa k fc) := hF.2.1.cell (i := 2) rfl
                      have y2 : wr.cell? ⟨b0, 0, none⟩ = some (.int .i64 0) := hF.1.cell (i := 0) rfl
                      have y3 : wr.cell? ⟨b0, 1, none⟩ = some (.slice none 0 0) := hF.1.cell (i := 1) rfl
                      have y4 : wr.cell? ⟨b0, 2, none⟩ = some (.slice none 0 0) := hF.1.cell (i := 2) rfl
                      have z0 := hF.1.frozen 0
                      have z1 := hF.1.frozen 1
                      have z2 := hF.1.frozen 2
                      have HF := hid_mk hF
                      clear hF hid hmi hl hRFe hpr hen0 hen
                      go_wp2
                      obtain ⟨f1, f2, f3, f4, f5, f6⟩ := HF.out.fin (.int .i64 (v1 : Int)) (.slice ta m tc) (.slice fa k fc) _ rfl
                      have e5 := HF.out.2.2.2.2.1
                      have e8 := HF.out.2.2.2.2.2.2.2.1
                      subst e5 e8
                      exact bodyPost_ret (v := .tuple #[.agg #[.int .i64 (v1 : Int), .slice ta ts.length tc, .slice fa fs.length fc], .int .i64 0, .int .i64 0]) (results_c2 Tryd.results14 rfl rfl rfl (load_prR f1)) rfl ⟨f2, .inr (.inr ⟨HW.out.2, (v1 : Int), ts, fs, ta, tc, fa, fc, vs, cs, HW.out.1, f3, f4, f5, f6, rfl⟩)⟩
                  · obtain ⟨d, rfl⟩ : ∃ k, d = k + 1 := ⟨d - 1, by omega⟩
                    have l1 : decide ((0 : Int) < ((d + 1 : Nat) : Int)) = true := by simp
                    have l2 : decide (0 < d + 1) = true := by simp
                    have k3 : wr.cell? ⟨b0 + 1, 3, none⟩ = some (.int .i64 0) := hF.2.2.2.2.2.2.2.2.1.2.2.2.2.2.2.cell (i := 3) rfl
                    have d3 : wr.cell? ⟨gp, 2, none⟩ = some (.slice fa k fc) := hF.2.1.cell (i := 2) rfl
                    obtain ⟨V3, hV3⟩ : ∃ V3, wr.drew = V3 := ⟨_, rfl⟩
                    have oV : Out 0 0 wr V3 := by rw [← hV3]; exact (Out.refl 0 0 wr).drew
                    have HFn := hid_mk (qfun_any (hF.quiet oV).2.2.2.2.2.2.2.2.1)
                    have HF : Hid (RdS w V3 b0 (b0 + 1) gp B ba n c bs (v1 : Int) ta m tc vs ts fa k fc cs fs (.inr e) ∧ i + (d + 1) = N3 ∧ k ≤ i ∧ stp (repR i funR) bs s3 = .inr (fs, e)) := hid_mk ⟨hF.quiet oV, hid, hmi, hl⟩
                    have HDn := hid_mk (dn_w (d := d) (by have := HT3.out.2; omega))
                    clear hF hid hmi hl hd oV
                    go_wp2_with fail
                    refine wp_region_T (S := fun w' => w'.cell? ⟨gp, 2, none⟩ = some (.slice fa k fc)) (z := 7) (by kernel_rfl) ?hS232 (fun hHeld => ?rest232)
                    case hS232 => exact d3
                    refine tkT 0 ?_
                    refine tkT 1 ?_
                    refine tkT 2 ?_
                    refine wpAnyT_one (i := 3) (by kernel_rfl) rfl (fun KK hK => ?_)
                    simp only [xa, xb, xc]
                    go_simp
                    (try rw [hV3])
                    refine HFn.out.mono ?_
                    rintro e9 w5 ⟨P, L, C, ca, m5, cc, l, rfl, hln, hown, r5, x5, hv5⟩
                    have q5 := HF.out.1.call r5 x5
                    refine hK.out _ _ ?hS236 (fun hHeld2 => ?rest236)
                    case hS236 => exact q5.2.1.cell (i := 2) rfl
                    clear hK KK
                    (try clear hHeld)
                    have hHeld := hHeld2
                    clear hHeld2
                    (try simp only [Act.put, xa, xb, xc, xd, xe, xf])
                    refine wpAnyT_one (i := 4) (by kernel_rfl) rfl (fun KK hK => ?_)
                    simp only [xa, xb, xc]
                    go_simp
                    obtain ⟨X1, hX1⟩ : ∃ X1, w5.alloc (.cells #[.int .i64 P, .int .i64 L, .int .i64 C, .slice ca m5 cc] 40) = X1 := ⟨_, rfl⟩
                    obtain ⟨t1, ht1⟩ : ∃ t1, w5.heap.size = t1 := ⟨_, rfl⟩
                    rw [hX1, ht1]
                    have o9 : Out 0 0 w5 X1 := by rw [← hX1]; exact (Out.refl 0 0 w5).alloc _
                    have HX1 : Hid (Bl X1 t1 #[.int .i64 P, .int .i64 L, .int .i64 C, .slice ca m5 cc] 40) := hid_mk (by rw [← hX1, ← ht1]; exact Bl.new _ _ _)
                    have q6 := q5.quiet o9
                    clear hX1 ht1
                    refine hK.out _ _ ?hS237 (fun hHeld2 => ?rest237)
                    case hS237 => exact q6.2.1.cell (i := 2) rfl
                    clear hK KK
                    (try clear hHeld)
                    have hHeld := hHeld2
                    clear hHeld2
                    (try simp only [Act.put, xa, xb, xc, xd, xe, xf])
                    refine wpAnyT_one (i := 5) (by kernel_rfl) rfl (fun KK hK => ?_)
                    simp only [xa, xb, xc]
                    obtain ⟨g4, cap4, w6, hr, z1, z2, z3⟩ := mk_apR (m := 1) (c := 1) (zs := [.int .i64 P, .int .i64 L, .int .i64 C, .slice ca m5 cc]) Tryd.underlying33 info_fnX rfl (by decide) (by decide) q6.2.2.2.2.2.1 q6.2.1.lt HX1.out rfl (by intro u hu; simp at hu; rcases hu with rfl | rfl | rfl | rfl <;> rfl) (by have := HF.out.2.2.1; have := HF.out.2.1; have := HT3.out.2; omega) (by decide) (by decide) 33
                    refine app_sr X1 _ _ _ _ rfl _ _ rfl rfl hr ?_
                    refine hK.out _ _ ?hS238 (fun hHeld2 => ?rest238)
                    case hS238 => exact (q6.2.1.fx z2 (fun e => by have := (own_ge q6.2.2.2.2.2.1 e).1; omega)).cell (i := 2) rfl
                    clear hK KK
                    (try clear hHeld)
                    have hHeld := hHeld2
                    clear hHeld2
                    (try simp only [Act.put, xa, xb, xc, xd, xe, xf])
                    refine tkT 6 ?_
                    refine wpAnyT_last (by kernel_rfl) rfl (fun KK hK => ?_)
                    simp only [xa, xb, xc]
                    have s9 := hHeld
                    have z9 := (q6.2.1.fx z2 (fun e => by have := (own_ge q6.2.2.2.2.2.1 e).1; omega)).frozen 2
                    go_simp
                    refine hK.out _ _ ?_
                    clear hK KK
                    (try simp only [Act.put, xa, xb, xc, xd, xe, xf])
                    refine wpAnyT_done (by kernel_rfl) ?_ _
                    have q7 := q6.pushF (N := V3.heap.size) (v := .slice ca m5 cc) (f := (P, L, C, l)) ((cdl_of hown hln HF.out.1.2.1.lt).fx (Q := fun _ => False) (Fx.of_out o9) (fun _ _ q => q)) (fun j a q z5 z6 => HF.out.1.2.2.2.2.2.2.1.lt z5 z6) (fun q hq => (own_ge hown hq).1) z1 z2
                    have HG := hid_mk (And.intro q7 hv5)
                    clear q7 hr z1 z2 z3 q6 q5 o9 HX1 hHeld s9 z9 r5 x5 hv5 hown hln
                    go_wp2
                    obtain ⟨-, hid, hmi, hl⟩ := HF.out
                    refine ⟨⟨i + 1, d, fs ++ [(P, L, C, l)], _, _, k + 1, cap4, _, by rw [HDn.out], by omega, by omega, HG.out.1, ?_⟩, by first | exact dn_m | (rw [HDn.out]; exact dn_m)⟩
                    rcases hi : funR bs e with z | ⟨f, q⟩
                    · exact .inr ⟨z, rfl, rl_err hl hi (by omega)⟩
                    · have := HG.out.2 f q hi
                      subst this
                      exact .inl ⟨q, rfl, rl_up hl hi⟩
                · rcases Nat.eq_zero_or_pos d with rfl | hd
                  · have l1 : decide ((0 : Int) < ((0 : Nat) : Int)) = false := by decide
                    (try rw [show ((0 : Nat) : Int) = 0 from rfl])
                    have hRFe : RF = .inl x := by rw [← HT3.out.1, hl]
                    have HW : Hid (wholeR bs = .inl x ∧ n ≤ 65536) := hid_mk ⟨whole_err (by rw [HPP.out, hRFe]; rfl), HS0.out.2.1⟩
                    have hx0 : x.1 ≠ 0 := hF.2.2.2.2.2.2.2.2.1.2.2.2.2.2.1
                    obtain ⟨a9, hl9, b9⟩ := hF.2.2.2.2.2.2.2.2.1.2.2.2.2.2.2
                    have k1 : wr.cell? ⟨b0 + 1, 1, none⟩ = some (.int .i64 a9) := b9.cell (i := 1) rfl
                    have k2 : wr.cell? ⟨b0 + 1, 2, none⟩ = some (.int .i64 (x.2 : Nat)) := b9.cell (i := 2) rfl
                    have k3 : wr.cell? ⟨b0 + 1, 3, none⟩ = some (.int .i64 x.1) := b9.cell (i := 3) rfl
                    have e0 : (x.1 == 0) = false := by simpa using hx0
                    have e1 : decide (x.1 = 0) = false := by simpa using hx0
                    by_cases hen : a9 < n
                    · obtain ⟨l5, l6⟩ := lt_d hen
                      have HBd := hid_mk (rbad_no hF.2.2.2.2.2.2.2.2.1 60 a9)
                      have HF := hid_mk hF
                      clear hF hid hmi hl hRFe hen b9 hl9 hx0
                      go_wp2_with fail
                      refine HBd.out.mono ?_
                      rintro e9 w9 ⟨rfl, r9, x9⟩
                      have hF := HF.out.call r9 x9
                      obtain ⟨-, -, -, -, -, -, a8, -, b8⟩ := r9
                      replace k3 : w9.cell? ⟨b0 + 1, 3, none⟩ = some (.int .i64 x.1) := b8.cell (i := 3) rfl
                      replace k2 : w9.cell? ⟨b0 + 1, 2, none⟩ = some (.int .i64 (x.2 : Nat)) := b8.cell (i := 2) rfl
                      clear b8 x9 HBd HF k1
                      have y2 : w9.cell? ⟨b0, 0, none⟩ = some (.int .i64 0) := hF.1.cell (i := 0) rfl
                      have y3 : w9.cell? ⟨b0, 1, none⟩ = some (.slice none 0 0) := hF.1.cell (i := 1) rfl
                      have y4 : w9.cell? ⟨b0, 2, none⟩ = some (.slice none 0 0) := hF.1.cell (i := 2) rfl
                      have oD : Out 0 0 w9 w9.drew := (Out.refl 0 0 _).drew
                      have j2 := oD.cell y2 (.inr (Nat.zero_le _))
                      have j3 := oD.cell y3 (.inr (Nat.zero_le _))
                      have j4 := oD.cell y4 (.inr (Nat.zero_le _))
                      have qD := hF.quiet oD
                      have z0 := qD.1.frozen 0
                      have z1 := qD.1.frozen 1
                      have z2 := qD.1.frozen 2
                      have z3 := hF.1.frozen 0
                      have z4 := hF.1.frozen 1
                      have z5 := hF.1.frozen 2
                      have HD := hid_mk qD
                      clear hF oD qD
                      go_wp2_with fail
                      refine wp_region_held_drew (S := fun w' => w'.cell? ⟨b0 + 1, 2, none⟩ = some (.int .i64 (x.2 : Nat)) ∧ w'.cell? ⟨b0 + 1, 3, none⟩ = some (.int .i64 x.1)) (by kernel_rfl) ?hS240 (fun hHeld => ?rest240)
                      case hS240 => exact ⟨k2, k3⟩
                      refine tk 0 ?_
                      refine tk 1 ?_
                      refine tk 2 ?_
                      refine tk 3 ?_
                      refine tk 4 ?_
                      refine tk 5 ?_
                      refine tk 6 ?_
                      refine tk 7 ?_
                      refine tk 8 ?_
                      refine wpAnyH_ready (rs := [9]) (by kernel_rfl) (by simp) ?_
                      refine AllReadyH.cons rfl (fun KK hK => ?_) AllReadyH.nil
                      simp only [xa, xb, xc]
                      go_simp
                      refine hK.out _ _ ?hS250 (fun hHeld2 => ?rest250)
                      case hS250 => exact ⟨far3 k2 (by omega), far3 k3 (by omega)⟩
                      clear hK KK
                      (try clear hHeld)
                      have hHeld := hHeld2
                      clear hHeld2
                      (try simp only [Act.put, xa, xb, xc, xd, xe, xf])
                      refine tk 10 ?_
                      refine tk 11 ?_
                      refine wpAnyH_done (by kernel_rfl) ?_ _
                      go_wp2
                      obtain ⟨f1, f2, -⟩ := HD.out.fin (.int .i64 0) (.slice none 0 0) (.slice none 0 0) _ rfl
                      exact bodyPost_ret (v := .tuple #[.agg #[.int .i64 0, .slice none 0 0, .slice none 0 0], .int .i64 (x.2 : Nat), .int .i64 x.1]) (results_c2 Tryd.results14 rfl rfl rfl (load_prR f1)) rfl ⟨f2, .inr (.inl ⟨HW.out.2, _, _, HW.out.1, rfl⟩)⟩
                    · have l5 : decide ((a9 : Int) < (n : Int)) = false := by simp; omega
                      have l6 : decide (a9 < n) = false := by simp; omega
                      clear hid hmi hl hRFe hen b9 hl9 hx0
                      have y2 : wr.cell? ⟨b0, 0, none⟩ = some (.int .i64 0) := hF.1.cell (i := 0) rfl
                      have y3 : wr.cell? ⟨b0, 1, none⟩ = some (.slice none 0 0) := hF.1.cell (i := 1) rfl
                      have y4 : wr.cell? ⟨b0, 2, none⟩ = some (.slice none 0 0) := hF.1.cell (i := 2) rfl
                      have oD : Out 0 0 wr wr.drew := (Out.refl 0 0 _).drew
                      have j2 := oD.cell y2 (.inr (Nat.zero_le _))
                      have j3 := oD.cell y3 (.inr (Nat.zero_le _))
                      have j4 := oD.cell y4 (.inr (Nat.zero_le _))
                      have qD := hF.quiet oD
                      have z0 := qD.1.frozen 0
                      have z1 := qD.1.frozen 1
                      have z2 := qD.1.frozen 2
                      have z3 := hF.1.frozen 0
                      have z4 := hF.1.frozen 1
                      have z5 := hF.1.frozen 2
                      have HD := hid_mk qD
                      clear hF oD qD
                      go_wp2_with fail
                      refine wp_region_held_drew (S := fun w' => w'.cell? ⟨b0 + 1, 2, none⟩ = some (.int .i64 (x.2 : Nat)) ∧ w'.cell? ⟨b0 + 1, 3, none⟩ = some (.int .i64 x.1)) (by kernel_rfl) ?hS253 (fun hHeld => ?rest253)
                      case hS253 => exact ⟨k2, k3⟩
                      refine tk 0 ?_
                      refine tk 1 ?_
                      refine tk 2 ?_
                      refine tk 3 ?_
                      refine tk 4 ?_
                      refine tk 5 ?_
                      refine tk 6 ?_
                      refine tk 7 ?_
                      refine tk 8 ?_
                      refine wpAnyH_ready (rs := [9]) (by kernel_rfl) (by simp) ?_
                      refine AllReadyH.cons rfl (fun KK hK => ?_) AllReadyH.nil
                      simp only [xa, xb, xc]
                      go_simp
                      refine hK.out _ _ ?hS263 (fun hHeld2 => ?rest263)
                      case hS263 => exact ⟨far3 k2 (by omega), far3 k3 (by omega)⟩
                      clear hK KK
                      (try clear hHeld)
                      have hHeld := hHeld2
                      clear hHeld2
                      (try simp only [Act.put, xa, xb, xc, xd, xe, xf])
                      refine tk 10 ?_
                      refine tk 11 ?_
                      refine wpAnyH_done (by kernel_rfl) ?_ _
                      go_wp2
                      obtain ⟨f1, f2, -⟩ := HD.out.fin (.int .i64 0) (.slice none 0 0) (.slice none 0 0) _ rfl
                      exact bodyPost_ret (v := .tuple #[.agg #[.int .i64 0, .slice none 0 0, .slice none 0 0], .int .i64 (x.2 : Nat), .int .i64 x.1]) (results_c2 Tryd.results14 rfl rfl rfl (load_prR f1)) rfl ⟨f2, .inr (.inl ⟨HW.out.2, _, _, HW.out.1, rfl⟩)⟩
                  · obtain ⟨d, rfl⟩ : ∃ k, d = k + 1 := ⟨d - 1, by omega⟩
                    have l1 : decide ((0 : Int) < ((d + 1 : Nat) : Int)) = true := by simp
                    have l2 : decide (0 < d + 1) = true := by simp
                    obtain ⟨a9, hl9, b9⟩ := hF.2.2.2.2.2.2.2.2.1.2.2.2.2.2.2
                    have hx0 : x.1 ≠ 0 := hF.2.2.2.2.2.2.2.2.1.2.2.2.2.2.1
                    have k3 : wr.cell? ⟨b0 + 1, 3, none⟩ = some (.int .i64 x.1) := b9.cell (i := 3) rfl
                    have e0 : (x.1 == 0) = false := by simpa using hx0
                    have e1 : decide (x.1 = 0) = false := by simpa using hx0
                    clear b9 hx0 hl9
                    have hRFe : RF = .inl x := by rw [← HT3.out.1, hl]
                    have HW : Hid (wholeR bs = .inl x ∧ n ≤ 65536) := hid_mk ⟨whole_err (by rw [HPP.out, hRFe]; rfl), HS0.out.2.1⟩
                    have hx0 : x.1 ≠ 0 := hF.2.2.2.2.2.2.2.2.1.2.2.2.2.2.1
                    obtain ⟨a9, hl9, b9⟩ := hF.2.2.2.2.2.2.2.2.1.2.2.2.2.2.2
                    have k1 : wr.cell? ⟨b0 + 1, 1, none⟩ = some (.int .i64 a9) := b9.cell (i := 1) rfl
                    have k2 : wr.cell? ⟨b0 + 1, 2, none⟩ = some (.int .i64 (x.2 : Nat)) := b9.cell (i := 2) rfl
                    have k3 : wr.cell? ⟨b0 + 1, 3, none⟩ = some (.int .i64 x.1) := b9.cell (i := 3) rfl
                    have e0 : (x.1 == 0) = false := by simpa using hx0
                    have e1 : decide (x.1 = 0) = false := by simpa using hx0
                    by_cases hen : a9 < n
                    · obtain ⟨l5, l6⟩ := lt_d hen
                      have HBd := hid_mk (rbad_no hF.2.2.2.2.2.2.2.2.1 60 a9)
                      have HF := hid_mk hF
                      clear hF hid hmi hl hRFe hen b9 hl9 hx0
                      go_wp2_with fail
                      refine HBd.out.mono ?_
                      rintro e9 w9 ⟨rfl, r9, x9⟩
                      have hF := HF.out.call r9 x9
                      obtain ⟨-, -, -, -, -, -, a8, -, b8⟩ := r9
                      replace k3 : w9.cell? ⟨b0 + 1, 3, none⟩ = some (.int .i64 x.1) := b8.cell (i := 3) rfl
                      replace k2 : w9.cell? ⟨b0 + 1, 2, none⟩ = some (.int .i64 (x.2 : Nat)) := b8.cell (i := 2) rfl
                      clear b8 x9 HBd HF k1
                      have y2 : w9.cell? ⟨b0, 0, none⟩ = some (.int .i64 0) := hF.1.cell (i := 0) rfl
                      have y3 : w9.cell? ⟨b0, 1, none⟩ = some (.slice none 0 0) := hF.1.cell (i := 1) rfl
                      have y4 : w9.cell? ⟨b0, 2, none⟩ = some (.slice none 0 0) := hF.1.cell (i := 2) rfl
                      have oD : Out 0 0 w9 w9.drew := (Out.refl 0 0 _).drew
                      have j2 := oD.cell y2 (.inr (Nat.zero_le _))
                      have j3 := oD.cell y3 (.inr (Nat.zero_le _))
                      have j4 := oD.cell y4 (.inr (Nat.zero_le _))
                      have qD := hF.quiet oD
                      have z0 := qD.1.frozen 0
                      have z1 := qD.1.frozen 1
                      have z2 := qD.1.frozen 2
                      have z3 := hF.1.frozen 0
                      have z4 := hF.1.frozen 1
                      have z5 := hF.1.frozen 2
                      have HD := hid_mk qD
                      clear hF oD qD
                      go_wp2_with fail
                      refine wp_region_held_drew (S := fun w' => w'.cell? ⟨b0 + 1, 2, none⟩ = some (.int .i64 (x.2 : Nat)) ∧ w'.cell? ⟨b0 + 1, 3, none⟩ = some (.int .i64 x.1)) (by kernel_rfl) ?hS266 (fun hHeld => ?rest266)
                      case hS266 => exact ⟨k2, k3⟩
                      refine tk 0 ?_
                      refine tk 1 ?_
                      refine tk 2 ?_
                      refine tk 3 ?_
                      refine tk 4 ?_
                      refine tk 5 ?_
                      refine tk 6 ?_
                      refine tk 7 ?_
                      refine tk 8 ?_
                      refine wpAnyH_ready (rs := [9]) (by kernel_rfl) (by simp) ?_
                      refine AllReadyH.cons rfl (fun KK hK => ?_) AllReadyH.nil
                      simp only [xa, xb, xc]
                      go_simp
                      refine hK.out _ _ ?hS276 (fun hHeld2 => ?rest276)
                      case hS276 => exact ⟨far3 k2 (by omega), far3 k3 (by omega)⟩
                      clear hK KK
                      (try clear hHeld)
                      have hHeld := hHeld2
                      clear hHeld2
                      (try simp only [Act.put, xa, xb, xc, xd, xe, xf])
                      refine tk 10 ?_
                      refine tk 11 ?_
                      refine wpAnyH_done (by kernel_rfl) ?_ _
                      go_wp2
                      obtain ⟨f1, f2, -⟩ := HD.out.fin (.int .i64 0) (.slice none 0 0) (.slice none 0 0) _ rfl
                      exact bodyPost_ret (v := .tuple #[.agg #[.int .i64 0, .slice none 0 0, .slice none 0 0], .int .i64 (x.2 : Nat), .int .i64 x.1]) (results_c2 Tryd.results14 rfl rfl rfl (load_prR f1)) rfl ⟨f2, .inr (.inl ⟨HW.out.2, _, _, HW.out.1, rfl⟩)⟩
                    · have l5 : decide ((a9 : Int) < (n : Int)) = false := by simp; omega
                      have l6 : decide (a9 < n) = false := by simp; omega
                      clear hid hmi hl hRFe hen b9 hl9 hx0
                      have y2 : wr.cell? ⟨b0, 0, none⟩ = some (.int .i64 0) := hF.1.cell (i := 0) rfl
                      have y3 : wr.cell? ⟨b0, 1, none⟩ = some (.slice none 0 0) := hF.1.cell (i := 1) rfl
                      have y4 : wr.cell? ⟨b0, 2, none⟩ = some (.slice none 0 0) := hF.1.cell (i := 2) rfl
                      have oD : Out 0 0 wr wr.drew := (Out.refl 0 0 _).drew
                      have j2 := oD.cell y2 (.inr (Nat.zero_le _))
                      have j3 := oD.cell y3 (.inr (Nat.zero_le _))
                      have j4 := oD.cell y4 (.inr (Nat.zero_le _))
                      have qD := hF.quiet oD
                      have z0 := qD.1.frozen 0
                      have z1 := qD.1.frozen 1
                      have z2 := qD.1.frozen 2
                      have z3 := hF.1.frozen 0
                      have z4 := hF.1.frozen 1
                      have z5 := hF.1.frozen 2
                      have HD := hid_mk qD
                      clear hF oD qD
                      go_wp2_with fail
                      refine wp_region_held_drew (S := fun w' => w'.cell? ⟨b0 + 1, 2, none⟩ = some (.int .i64 (x.2 : Nat)) ∧ w'.cell? ⟨b0 + 1, 3, none⟩ = some (.int .i64 x.1)) (by kernel_rfl) ?hS279 (fun hHeld => ?rest279)
                      case hS279 => exact ⟨k2, k3⟩
                      refine tk 0 ?_
                      refine tk 1 ?_
                      refine tk 2 ?_
                      refine tk 3 ?_
                      refine tk 4 ?_
                      refine tk 5 ?_
                      refine tk 6 ?_
                      refine tk 7 ?_
                      refine tk 8 ?_
                      refine wpAnyH_ready (rs := [9]) (by kernel_rfl) (by simp) ?_
                      refine AllReadyH.cons rfl (fun KK hK => ?_) AllReadyH.nil
                      simp only [xa, xb, xc]
                      go_simp
                      refine hK.out _ _ ?hS289 (fun hHeld2 => ?rest289)
                      case hS289 => exact ⟨far3 k2 (by omega), far3 k3 (by omega)⟩
                      clear hK KK
                      (try clear hHeld)
                      have hHeld := hHeld2
                      clear hHeld2
                      (try simp only [Act.put, xa, xb, xc, xd, xe, xf])
                      refine tk 10 ?_
                      refine tk 11 ?_
                      refine wpAnyH_done (by kernel_rfl) ?_ _
                      go_wp2
                      obtain ⟨f1, f2, -⟩ := HD.out.fin (.int .i64 0) (.slice none 0 0) (.slice none 0 0) _ rfl
                      exact bodyPost_ret (v := .tuple #[.agg #[.int .i64 0, .slice none 0 0, .slice none 0 0], .int .i64 (x.2 : Nat), .int .i64 x.1]) (results_c2 Tryd.results14 rfl rfl rfl (load_prR f1)) rfl ⟨f2, .inr (.inl ⟨HW.out.2, _, _, HW.out.1, rfl⟩)⟩

end Go.Proofs.YtapjfokkcgdhhaaDoor
