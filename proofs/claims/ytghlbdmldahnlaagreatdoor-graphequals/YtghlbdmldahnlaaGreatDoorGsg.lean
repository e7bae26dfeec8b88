/- the law of chapter 10: what a lending has done -/
import Derived.Test.YtghlbdmldahnlaaGreatDoorGsf
namespace Go.Proofs.YtghlbdmldahnlaaGreatDoor
open Go.RowKit
set_option linter.unusedVariables false
set_option linter.unusedSimpArgs false

theorem out_fx {Q : Nat → Prop} {w a c : World} (h : Out 0 0 w a) (x : Fx Q a c) (hQ : ∀ k, Q k → w.heap.size ≤ k) : Out 0 0 w c :=
  (Fx.then (S := fun _ => False) (Fx.of_out h) x fun k hk hq => by have := hQ k hq; omega).out fun _ _ q => q
theorem take_1 {α : Type} {l : List α} {i : Nat} {x : α} (h : l[i]? = some x) : l.take (i + 1) = l.take i ++ [x] := by
  rw [List.take_add_one, h]; rfl
theorem ob_len {a : Option Addr} {n m c : Nat} : (Value.slice a n c).ownBlock = (Value.slice a m c).ownBlock := by
  cases a <;> rfl
theorem own_apart {w : World} {E E' : TypeId} {b1 b2 s1 s2 n n' : Nat} {v v' : Value} {xs xs' : List Value} (h : w.ownsRow b1 E s1 v n xs) (h' : w.ownsRow b2 E' s2 v' n' xs') (hE : E ≠ E') {k : Nat} (hk : v.ownBlock = some k) : v'.ownBlock ≠ some k := by
  intro hk'
  rcases h.2 with ⟨rfl, _⟩ | ⟨g, c, cur, rfl, _, h3, _⟩
  · cases hk
  · rcases h'.2 with ⟨rfl, _⟩ | ⟨g', c', cur', rfl, _, h3', _⟩
    · cases hk'
    · cases hk; cases hk'
      rw [h3] at h3'
      cases h3'
      exact hE rfl
theorem bl_src {w : World} {g : Nat} {ys : List Value} {T : TypeId} (h : Bl w g ys.toArray T) (m : Nat) : m = 0 ∨ ∃ vb off, (some ⟨g, 0, none⟩ : Option Addr) = some ⟨vb, off, none⟩ ∧ ∀ (j : Nat) u, ys[j]? = some u → w.cell? ⟨vb, off + j, none⟩ = some u :=
  .inr ⟨g, 0, rfl, fun j u hj => by rw [Nat.zero_add]; exact h.cell (by simpa using hj)⟩
theorem is_src {w : World} {B : Nat} {p : Option Addr} {l : List Int} {n s : Nat} (h : IsIn w B p l) (hn : l.length = n * s) (hs : 0 < s) : n = 0 ∨ ∃ vb off, p = some ⟨vb, off, none⟩ ∧ ∀ (j : Nat) u, (ivs l)[j]? = some u → w.cell? ⟨vb, off + j, none⟩ = some u := by
  rcases h with h | ⟨g, off, rfl, hg, hc⟩
  · rw [h] at hn
    refine .inl ?_
    have : n * s = 0 := by simpa using hn.symm
    rcases Nat.mul_eq_zero.1 this with q | q
    · exact q
    · omega
  · refine .inr ⟨g, off, rfl, fun j u hj => ?_⟩
    obtain ⟨x, h1, rfl⟩ := ivs_back hj
    exact hc j x h1
section
variable {T E : TypeId} {z : Value} {sz by_ : Nat}
/-- a copy in a row of its own -/
theorem cp_at (hT : Tryz.prog.underlying T = some (.slice E)) (hinf : (Tryz.prog.info? E).map (fun i => (i.zero, i.size, i.bytes)) = some (some z, sz, by_)) (hz : z.cells.size = sz) (hsz : 0 < sz) (hby : by_ ≤ 1000) {w : World} {m c : Nat} {sa : Option Addr} {ys : List Value} (hv : m = 0 ∨ ∃ vb off, sa = some ⟨vb, off, none⟩ ∧ ∀ (j : Nat) u, ys[j]? = some u → w.cell? ⟨vb, off + j, none⟩ = some u) (hl : ys.length = m * sz) (h1 : ∀ u ∈ ys, u.oneCell' = true) (hm2 : m ≤ 2000000) (ty : TypeId) :
    ∃ a' cap' w', (Builtin.append_ #[T, T] ty #[.slice none 0 0, .slice sa m c]).run Tryz.prog w = .ok (.slice a' m cap') w' ∧ w'.ownsRow w.heap.size E sz (.slice a' m cap') m ys ∧ Out 0 0 w w' := by
  obtain ⟨a', cap', w', q1, q2, q3, q4⟩ := app_at hT hinf hz hsz hby (c := c) (World.ownsRow_nil w w.heap.size E sz) (Nat.le_refl _) hv hl h1 (by omega) hm2 ty
  rw [Nat.zero_add] at q1 q2
  exact ⟨a', cap', w', q1, q2, q3.out fun k _ q => by cases q⟩
/-- marks behind it -/
theorem mk_at (hT : Tryz.prog.underlying T = some (.slice E)) (hinf : (Tryz.prog.info? E).map (fun i => (i.zero, i.size, i.bytes)) = some (some z, sz, by_)) (hz : z.cells.size = sz) (hsz : 0 < sz) (hby : by_ ≤ 1000) {w : World} {base K cap m c p : Nat} {ta : Option Addr} {xs zs : List Value} (hown : w.ownsRow base E sz (.slice ta K cap) K xs) (hbase : base ≤ w.heap.size) (hp : Bl w p zs.toArray E) (hl : zs.length = m * sz) (h1 : ∀ u ∈ zs, u.oneCell' = true) (hK : K ≤ 2000000) (hm : 0 < m) (hm2 : m ≤ 2000000) (ty : TypeId) :
    ∃ g cap' w', (Builtin.append_ #[T, T] ty #[.slice ta K cap, .slice (some ⟨p, 0, none⟩) m c]).run Tryz.prog w = .ok (.slice (some ⟨g, 0, none⟩) (K + m) cap') w' ∧ w'.ownsRow base E sz (.slice (some ⟨g, 0, none⟩) (K + m) cap') (K + m) (xs ++ zs) ∧ Fx (fun k => (Value.slice ta K cap).ownBlock = some k) w w' := by
  obtain ⟨a', cap', w', q1, q2, q3, q4⟩ := app_at hT hinf hz hsz hby (c := c) hown hbase (bl_src hp m) hl h1 hK hm2 ty
  obtain ⟨g, cap2, h, _⟩ := q2.form (by omega)
  cases h
  exact ⟨g, cap', w', q1, q2, q3⟩
/-- a slice from the first place on -/
theorem slice_to2 (hT : Tryz.prog.underlying T = some (.slice (Tryz.prog.elem T))) (hE : Tryz.prog.elem T = E) (hinf : (Tryz.prog.info? E).map (fun i => (i.zero, i.size, i.bytes)) = some (some z, sz, by_)) (g K cap n : Nat) (h : n ≤ cap) (W : World) : (Instr.sliceAt T (.slice (some ⟨g, 0, none⟩) K cap) none (some (.int .i64 (n : Int))) none).run Tryz.prog W = .ok (.slice (some ⟨g, 0, none⟩) n cap) W := by
  obtain ⟨i0, hi, hz0, hz1, hz2⟩ := info_p hinf
  have key : (Instr.sliceAt T (.slice (some ⟨g, 0, none⟩) K cap) none (some (.int .i64 (n : Int))) none).run Tryz.prog W = .ok (sliced (some ⟨g, 0, none⟩) 0 n cap sz) W := by
    rw [run_sliceAt_slice W _ _ _ _ _ hT, run_slice_h W _ _ _ _ hT _ _ (by omega) (by omega), hE]
    simp [sizeOf, typeInfo, hi, hz1, Result.andThen]
  rw [key]
  unfold sliced
  by_cases hc : cap = 0
  · simp [hc]
  · simp [hc, Addr.add_lit]
end
theorem info_iG : (Tryz.prog.info? 3).map (fun i => (i.zero, i.size, i.bytes)) = some (some (.int .i64 0), 1, 8) := by kernel_rfl
theorem info_e : (Tryz.prog.info? 47).map (fun i => (i.zero, i.size, i.bytes)) = some (some (.agg #[.int .i64 0, .int .i64 0, .int .i64 0, .int .i64 0]), 4, 32) := by kernel_rfl
theorem info_n : (Tryz.prog.info? 37).map (fun i => (i.zero, i.size, i.bytes)) = some (some (.agg #[.int .i64 0, .int .i64 0, .slice none 0 0, .slice none 0 0, .slice none 0 0]), 5, 88) := by kernel_rfl
theorem und_i : Tryz.prog.underlying 34 = some (.slice (Tryz.prog.elem 34)) := by kernel_rfl
theorem elem_i : Tryz.prog.elem 34 = 3 := by kernel_rfl
theorem und_v : Tryz.prog.underlying 23 = some (.slice (Tryz.prog.elem 23)) := by kernel_rfl
theorem elem_v : Tryz.prog.elem 23 = 33 := by kernel_rfl
theorem und_e : Tryz.prog.underlying 35 = some (.slice (Tryz.prog.elem 35)) := by kernel_rfl
theorem elem_e : Tryz.prog.elem 35 = 47 := by kernel_rfl
theorem und_n : Tryz.prog.underlying 22 = some (.slice (Tryz.prog.elem 22)) := by kernel_rfl
theorem elem_n : Tryz.prog.elem 22 = 37 := by kernel_rfl
/-- a row of numbers of one's own, with a mark behind it -/
def RL (w : World) (lo : Nat) (E : TypeId) (s : Nat) (mk : List Int) (v : Value) (l : List Int) : Prop := ∃ g c n, v = .slice (some ⟨g, 0, none⟩) n c ∧ l.length = n * s ∧ w.ownsRow lo E s (.slice (some ⟨g, 0, none⟩) (n + 1) c) (n + 1) (ivs (l ++ mk))
section
variable {Q : Nat → Prop} {w w' : World} {lo l2 : Nat} {E : TypeId} {s : Nat} {mk l : List Int} {v : Value}
theorem RL.fx (h : RL w lo E s mk v l) (x : Fx Q w w') (hQ : ∀ k, v.ownBlock = some k → ¬ Q k) : RL w' lo E s mk v l := by
  obtain ⟨g, c, n, rfl, h1, h2⟩ := h
  exact ⟨g, c, n, rfl, h1, own_fx h2 x fun k hk => hQ k (by rw [← hk]; exact ob_len)⟩
theorem RL.quiet (h : RL w lo E s mk v l) (o : Out 0 0 w w') : RL w' lo E s mk v l := h.fx (Q := fun _ => False) (Fx.of_out o) fun _ _ q => q
theorem RL.ob (h : RL w lo E s mk v l) {k : Nat} (hk : v.ownBlock = some k) : lo ≤ k ∧ k < w.heap.size := by
  obtain ⟨g, c, n, rfl, h1, h2⟩ := h
  exact own_ge h2 (by rw [← hk]; exact ob_len)
theorem RL.other {b2 s2 n' : Nat} {v' : Value} {E' : TypeId} {xs : List Value} (h : RL w lo E s mk v l) (h' : w.ownsRow b2 E' s2 v' n' xs) (hE : E ≠ E') {k : Nat} (hk : v.ownBlock = some k) : v'.ownBlock ≠ some k := by
  obtain ⟨g, c, n, rfl, h1, h2⟩ := h
  exact own_apart h2 h' hE (by rw [← hk]; exact ob_len)
theorem RL.low (h : RL w lo E s mk v l) (hl : l2 ≤ lo) : RL w l2 E s mk v l := by
  obtain ⟨g, c, n, rfl, h1, h2⟩ := h
  exact ⟨g, c, n, rfl, h1, Go.Joins.ownsRow_le h2 hl⟩
/-- what lies in it -/
theorem RL.in (h : RL w lo E s mk v l) (hm : mk.length = s) (hs : 0 < s) : ∃ g c n, v = .slice (some ⟨g, 0, none⟩) n c ∧ l.length = n * s ∧ n + 1 ≤ c ∧ lo ≤ g ∧ g < w.heap.size ∧ (∀ (j : Nat) x, l[j]? = some x → w.cell? ⟨g, j, none⟩ = some (.int .i64 x)) ∧ (∀ (j : Nat) x, mk[j]? = some x → w.cell? ⟨g, n * s + j, none⟩ = some (.int .i64 x)) ∧ ∀ j, w.frozen? ⟨g, j, none⟩ = false := by
  obtain ⟨g, c, n, rfl, h1, h2⟩ := h
  obtain ⟨g', cur, e, q1, q2, q3, q4, q5, q6, q7⟩ := own_cellsX h2 (by omega)
  cases e
  refine ⟨g, c, n, rfl, h1, q5, q1, q3.lt, fun j x hj => ?_, fun j x hj => ?_, fun j => q3.frozen j⟩
  · refine q2 j _ (ivs_at ?_)
    rw [List.getElem?_append_left (List.getElem?_eq_some_iff.1 hj).1]
    exact hj
  · refine q2 _ _ (ivs_at ?_)
    rw [List.getElem?_append_right (by omega), h1]
    simpa using hj
end
/-- the cells of nodes with their lists -/
def ncl : List (Int × Int × List Int × List Int × List Int) → List (Value × Value × Value) → List Value
  | n :: ns, v :: vs => .int .i64 n.1 :: .int .i64 n.2.1 :: v.1 :: v.2.1 :: v.2.2 :: ncl ns vs
  | _, _ => []
theorem ncl_at : ∀ {ns : List (Int × Int × List Int × List Int × List Int)} {vs : List (Value × Value × Value)} {j : Nat} {n : Int × Int × List Int × List Int × List Int} {v : Value × Value × Value}, ns[j]? = some n → vs[j]? = some v → (ncl ns vs)[j * 5]? = some (.int .i64 n.1) ∧ (ncl ns vs)[j * 5 + 1]? = some (.int .i64 n.2.1) ∧ (ncl ns vs)[j * 5 + 2]? = some v.1 ∧ (ncl ns vs)[j * 5 + 3]? = some v.2.1 ∧ (ncl ns vs)[j * 5 + 4]? = some v.2.2
  | [], cs, j, f, c, h, h' => by simp at h
  | y :: fs, [], j, f, c, h, h' => by simp at h'
  | y :: fs, d :: cs, 0, f, c, h, h' => by
    simp at h h'
    subst h h'
    exact ⟨rfl, rfl, rfl, rfl, rfl⟩
  | y :: fs, d :: cs, j + 1, f, c, h, h' => by
    have := ncl_at (ns := fs) (vs := cs) (j := j) (n := f) (v := c) (by simpa using h) (by simpa using h')
    rw [show (j + 1) * 5 = j * 5 + 1 + 1 + 1 + 1 + 1 by omega]
    exact this
theorem ncl_len : ∀ {ns : List (Int × Int × List Int × List Int × List Int)} {vs : List (Value × Value × Value)}, vs.length = ns.length → (ncl ns vs).length = ns.length * 5
  | [], [], _ => rfl
  | y :: fs, d :: cs, h => by
    have := ncl_len (ns := fs) (vs := cs) (by simpa using h)
    simp only [ncl, List.length_cons, this]; omega
  | [], d :: cs, h => by simp at h
  | y :: fs, [], h => by simp at h
theorem ncl_up : ∀ {ns : List (Int × Int × List Int × List Int × List Int)} {vs : List (Value × Value × Value)} (n : Int × Int × List Int × List Int × List Int) (v : Value × Value × Value), vs.length = ns.length → ncl (ns ++ [n]) (vs ++ [v]) = ncl ns vs ++ [.int .i64 n.1, .int .i64 n.2.1, v.1, v.2.1, v.2.2]
  | [], [], f, c, _ => rfl
  | y :: fs, d :: cs, f, c, h => by
    have := ncl_up (ns := fs) (vs := cs) f c (by simpa using h)
    simp only [List.cons_append, ncl, this]
  | [], d :: cs, f, c, h => by simp at h
  | y :: fs, [], f, c, h => by simp at h
/-- the three lists of a node -/
def RL3 (w : World) (lo : Nat) (v : Value × Value × Value) (n : Int × Int × List Int × List Int × List Int) : Prop := RL w lo 3 1 [-77] v.1 n.2.2.1 ∧ RL w lo 33 2 [77, 0] v.2.1 n.2.2.2.1 ∧ RL w lo 47 4 [77, 0, 0, 0] v.2.2 n.2.2.2.2
theorem RL3.fx {Q : Nat → Prop} {w w' : World} {lo : Nat} {v : Value × Value × Value} {n : Int × Int × List Int × List Int × List Int} (h : RL3 w lo v n) (x : Fx Q w w') (hQ : ∀ k, v.1.ownBlock = some k ∨ v.2.1.ownBlock = some k ∨ v.2.2.ownBlock = some k → ¬ Q k) : RL3 w' lo v n :=
  ⟨h.1.fx x fun k hk => hQ k (.inl hk), h.2.1.fx x fun k hk => hQ k (.inr (.inl hk)), h.2.2.fx x fun k hk => hQ k (.inr (.inr hk))⟩
theorem RL3.ob {w : World} {lo : Nat} {v : Value × Value × Value} {n : Int × Int × List Int × List Int × List Int} (h : RL3 w lo v n) {k : Nat} (hk : v.1.ownBlock = some k ∨ v.2.1.ownBlock = some k ∨ v.2.2.ownBlock = some k) : lo ≤ k ∧ k < w.heap.size := by
  rcases hk with q | q | q
  · exact h.1.ob q
  · exact h.2.1.ob q
  · exact h.2.2.ob q
theorem RL3.other {w : World} {lo b2 s2 n' : Nat} {v : Value × Value × Value} {n : Int × Int × List Int × List Int × List Int} {v' : Value} {xs : List Value} (h : RL3 w lo v n) (h' : w.ownsRow b2 37 s2 v' n' xs) {k : Nat} (hk : v.1.ownBlock = some k ∨ v.2.1.ownBlock = some k ∨ v.2.2.ownBlock = some k) : v'.ownBlock ≠ some k := by
  rcases hk with q | q | q
  · exact h.1.other h' (by decide) q
  · exact h.2.1.other h' (by decide) q
  · exact h.2.2.other h' (by decide) q
/-- the lists of nodes -/
def NL (w : World) (lo : Nat) (vs : List (Value × Value × Value)) (ns : List (Int × Int × List Int × List Int × List Int)) : Prop := vs.length = ns.length ∧ ∀ (j : Nat) v n, vs[j]? = some v → ns[j]? = some n → RL3 w lo v n
theorem NL.fx {Q : Nat → Prop} {w w' : World} {lo : Nat} {vs : List (Value × Value × Value)} {ns : List (Int × Int × List Int × List Int × List Int)} (h : NL w lo vs ns) (x : Fx Q w w') (hQ : ∀ (j : Nat) v n k, vs[j]? = some v → ns[j]? = some n → (v.1.ownBlock = some k ∨ v.2.1.ownBlock = some k ∨ v.2.2.ownBlock = some k) → ¬ Q k) : NL w' lo vs ns :=
  ⟨h.1, fun j v n h1 h2 => (h.2 j v n h1 h2).fx x fun k hk => hQ j v n k h1 h2 hk⟩
theorem NL.quiet {w w' : World} {lo : Nat} {vs : List (Value × Value × Value)} {ns : List (Int × Int × List Int × List Int × List Int)} (h : NL w lo vs ns) (o : Out 0 0 w w') : NL w' lo vs ns := h.fx (Q := fun _ => False) (Fx.of_out o) fun _ _ _ _ _ _ _ q => q
theorem NL.up {w : World} {lo : Nat} {vs : List (Value × Value × Value)} {ns : List (Int × Int × List Int × List Int × List Int)} {v : Value × Value × Value} {n : Int × Int × List Int × List Int × List Int} (h : NL w lo vs ns) (h2 : RL3 w lo v n) : NL w lo (vs ++ [v]) (ns ++ [n]) := by
  refine ⟨by simp [h.1], fun j v' t' q1 q2 => ?_⟩
  by_cases hj : j < vs.length
  · rw [List.getElem?_append_left hj] at q1
    rw [List.getElem?_append_left (by have := h.1; omega)] at q2
    exact h.2 j v' t' q1 q2
  · have hlt := (List.getElem?_eq_some_iff.1 q1).1
    simp at hlt
    obtain rfl : j = vs.length := by omega
    simp at q1
    rw [h.1] at q2
    simp at q2
    subst q1 q2
    exact h2
/-- the three blocks of lent -/
def L3 (wr : World) (b : Nat) (pc qc : Array Value) : Prop := Bl wr b pc 25 ∧ Bl wr (b + 1) #[.slice none 0 0, .slice none 0 0] 25 ∧ Bl wr (b + 1 + 1) qc 25
theorem L3.fx {Q : Nat → Prop} {w w' : World} {b : Nat} {pc qc : Array Value} (h : L3 w b pc qc) (x : Fx Q w w') (hQ : ∀ k, k ≤ b + 2 → ¬ Q k) : L3 w' b pc qc := ⟨h.1.fx x (hQ _ (by omega)), h.2.1.fx x (hQ _ (by omega)), h.2.2.fx x (hQ _ (by omega))⟩
theorem L3.quiet {w w' : World} {b : Nat} {pc qc : Array Value} (h : L3 w b pc qc) (o : Out 0 0 w w') : L3 w' b pc qc := h.fx (Q := fun _ => False) (Fx.of_out o) fun _ _ q => q
theorem L3.set {w : World} {b i : Nat} {pc qc : Array Value} (h : L3 w b pc qc) (v : Value) : L3 (w.setCell ⟨b + 1 + 1, i, none⟩ v) b pc (qc.setIfInBounds i v) :=
  ⟨h.1.other (q := ⟨b + 1 + 1, i, none⟩) (by show b + 1 + 1 ≠ b; omega) v, h.2.1.other (q := ⟨b + 1 + 1, i, none⟩) (by show b + 1 + 1 ≠ b + 1; omega) v, h.2.2.set i v⟩
/-- i nodes are lent -/
def LG (w wr : World) (b : Nat) (pc : Array Value) (ns : List (Int × Int × List Int × List Int × List Int)) (i : Nat) (xa : Option Addr) (xc : Nat) (vs : List (Value × Value × Value)) : Prop :=
  L3 wr b pc #[.slice xa i xc, .slice none 0 0] ∧ wr.ownsRow (b + 3) 37 5 (.slice xa i xc) i (ncl (ns.take i) vs) ∧ NL wr (b + 3) vs (ns.take i) ∧ Out 0 0 w wr ∧ w.heap.size = b
section
variable {w wr : World} {b : Nat} {pc : Array Value} {ns : List (Int × Int × List Int × List Int × List Int)} {i : Nat} {xa : Option Addr} {xc : Nat} {vs : List (Value × Value × Value)}
theorem LG.quiet {w2 : World} (h : LG w wr b pc ns i xa xc vs) (o : Out 0 0 wr w2) : LG w w2 b pc ns i xa xc vs :=
  ⟨h.1.quiet o, own_fx (S := fun _ => False) h.2.1 (Fx.of_out o) (fun _ _ q => q), h.2.2.1.quiet o, h.2.2.2.1.trans o, h.2.2.2.2⟩
theorem LG.size (h : LG w wr b pc ns i xa xc vs) : b + 3 ≤ wr.heap.size := by have := h.1.2.2.lt; omega
/-- a node more -/
theorem LG.step {w6 : World} {n : Int × Int × List Int × List Int × List Int} {v : Value × Value × Value} {a' : Option Addr} {cap' : Nat} (h : LG w wr b pc ns i xa xc vs) (hn : ns[i]? = some n) (hv : RL3 wr (b + 3) v n) (q1 : w6.ownsRow (b + 3) 37 5 (.slice a' (i + 1) cap') (i + 1) (ncl (ns.take i) vs ++ [.int .i64 n.1, .int .i64 n.2.1, v.1, v.2.1, v.2.2])) (q2 : Fx (fun k => (Value.slice xa i xc).ownBlock = some k) wr w6) :
    LG w (w6.setCell ⟨b + 1 + 1, 0, none⟩ (.slice a' (i + 1) cap')) b pc ns (i + 1) a' cap' (vs ++ [v]) := by
  obtain ⟨h1, h2, h3, h6, h7⟩ := h
  have hs : Fx (fun k => k = b + 2) w6 (w6.setCell ⟨b + 1 + 1, 0, none⟩ (.slice a' (i + 1) cap')) := (Fx.refl (fun k => k = b + 2) _).set (p := ⟨b + 1 + 1, 0, none⟩) (.inl rfl) _
  have hlo : ∀ k, (Value.slice xa i xc).ownBlock = some k → b + 3 ≤ k := fun k hk => (own_ge h2 hk).1
  have gT := (h3.up hv).fx q2 (fun j' v' t' k z1 z2 z3 => ((h3.up hv).2 j' v' t' z1 z2).other h2 z3)
  refine ⟨(h1.fx q2 (fun k hk e => by have := hlo k e; omega)).set _, ?_, ?_, out_fx (out_fx h6 q2 (fun k hk => by have := hlo k hk; omega)) hs (fun k hk => by omega), h7⟩
  · rw [take_1 hn, ncl_up _ _ h3.1]
    exact own_fx q1 hs (fun k hk e => by have := (own_ge q1 hk).1; omega)
  · rw [take_1 hn]
    exact gT.fx hs (fun j' v' t' k z1 z2 z3 e => by have := ((gT.2 j' v' t' z1 z2).ob z3).1; omega)
end
/-- a graph that was lent -/
def LnAt (w : World) (lo gn cn : Nat) (vs : List (Value × Value × Value)) (rv : Value) (ns : List (Int × Int × List Int × List Int × List Int)) (rs : List Int) : Prop :=
  w.ownsRow lo 37 5 (.slice (some ⟨gn, 0, none⟩) (ns.length + 1) cn) (ns.length + 1) (ncl ns vs ++ [.int .i64 (-77), .int .i64 0, .slice none 0 0, .slice none 0 0, .slice none 0 0]) ∧ NL w lo vs ns ∧ RL w lo 33 2 [77, 0] rv rs
theorem LnAt.quiet {w w' : World} {lo gn cn : Nat} {vs : List (Value × Value × Value)} {rv : Value} {ns : List (Int × Int × List Int × List Int × List Int)} {rs : List Int} (h : LnAt w lo gn cn vs rv ns rs) (o : Out 0 0 w w') : LnAt w' lo gn cn vs rv ns rs :=
  ⟨own_fx (S := fun _ => False) h.1 (Fx.of_out o) (fun _ _ q => q), h.2.1.quiet o, h.2.2.quiet o⟩
def LnQ (w : World) (ns : List (Int × Int × List Int × List Int × List Int)) (rs : List Int) (e : Ending) (w' : World) : Prop := Out 0 0 w w' ∧ ∃ gn cn vs rv, e = .returned (.agg #[.slice (some ⟨gn, 0, none⟩) ns.length cn, rv]) ∧ LnAt w' w.heap.size gn cn vs rv ns rs
section
variable {P : Program} {ops : Array Oper} {Q : Exit → Act → World → Prop} {md : Region.Mode} {S : World → Prop} {z : Nat}
/-- two operations may come up, and neither is z -/
theorem wpAnyT_two {i j : Nat} {o o' : Oper} {fuel : Nat} {listed : Array Bool} {a : Act} {w : World} (hr : Region.ready md ops listed = [i, j]) (ho : ops[i]? = some o) (ho' : ops[j]? = some o')
    (h : ∀ K' : Act → World → Prop, Shut (∀ a w, S w → (S w → wpAnyT P md ops Q S z fuel (listed.setIfInBounds i true) a w) → K' a w) → if Region.wanted o (yielded ops a.tmps) = true then Oper.wp P o a w K' Q else K' (a.put o.dst undef) w)
    (h' : ∀ K' : Act → World → Prop, Shut (∀ a w, S w → (S w → wpAnyT P md ops Q S z fuel (listed.setIfInBounds j true) a w) → K' a w) → if Region.wanted o' (yielded ops a.tmps) = true then Oper.wp P o' a w K' Q else K' (a.put o'.dst undef) w) : wpAnyT P md ops Q S z (fuel + 1) listed a w := by
  refine ⟨fun h0 => (by rw [hr] at h0; cases h0), fun k hk => ?_⟩
  rw [hr] at hk
  simp at hk
  rcases hk with rfl | rfl
  · exact wpOp_step ho (fun K' hK => h K' (fun a w hS hW => hK a w ⟨fun _ => hS, hW hS⟩))
  · exact wpOp_step ho' (fun K' hK => h' K' (fun a w hS hW => hK a w ⟨fun _ => hS, hW hS⟩))
end
end Go.Proofs.YtghlbdmldahnlaaGreatDoor
