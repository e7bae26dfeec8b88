/- pairs side by side -/
import Derived.Test.YtfkmaanfgkkjcaaDoorGo
namespace Go.Proofs.YtfkmaanfgkkjcaaDoor
open Go.RowKit
set_option linter.unusedVariables false
set_option linter.unusedSimpArgs false

/-- a pair: its block, its tables and their blocks, its pages, how many lists it has left and marked, is it as it was made, its colours -/
structure Desc where
  b : Nat
  bt : Nat
  bwt : Nat
  br : Nat
  bwr : Nat
  n : Nat
  S : Nat → Int × Int × Int
  nl : Nat
  nm : Nat
  u : Bool
  col : Nat → Nat
def Desc.own (d : Desc) (k : Nat) : Prop := d.col k ≠ 7 ∨ k = d.bt ∨ k = d.bwt ∨ k = d.br ∨ k = d.bwr
def Nums (nl nm : Nat) (u : Bool) : Prop := (u = true → ∃ m, nl = 2 * m ∧ nm = 18 * m ∧ m ≤ 34) ∧ (u = false → nl = 0 ∧ nm ≤ 1836)
def PairK (B : Nat) (w : World) (d : Desc) : Prop :=
  (∃ vL vW vS vM L Wr Ls Mk C, Keep B w d.b (.pointer (some ⟨d.bt, 0, none⟩)) (.pointer (some ⟨d.br, 0, none⟩)) vL vW vS vM L Wr Ls Mk C d.col none 0 d.u ∧ (d.u = true → Wr.length = L.length) ∧ L.length = d.nl ∧ Ls.length = Mk.length ∧ Mk.length = d.nm) ∧
  Nums d.nl d.nm d.u ∧ TblAt 70 w d.bt d.bwt d.n d.S ∧ TblAt 61 w d.br d.bwr d.n d.S ∧ (d.col d.bt = 7 ∧ d.col d.bwt = 7 ∧ d.col d.br = 7 ∧ d.col d.bwr = 7) ∧
  (B ≤ d.bt ∧ B ≤ d.bwt ∧ B ≤ d.br ∧ B ≤ d.bwr) ∧ d.bt ≠ d.bwr ∧ d.br ≠ d.bwt ∧ d.bwt ≠ d.bwr
theorem PairK.hB {B : Nat} {w : World} {d : Desc} (h : PairK B w d) : B ≤ w.heap.size := by
  obtain ⟨⟨vL, vW, vS, vM, L, Wr, Ls, Mk, C, hk, _⟩, _⟩ := h
  exact hk.hB
theorem PairK.lt {B : Nat} {w : World} {d : Desc} (h : PairK B w d) : d.bt < w.heap.size ∧ d.bwt < w.heap.size ∧ d.br < w.heap.size ∧ d.bwr < w.heap.size := by
  obtain ⟨_, _, h1, h2, _⟩ := h
  exact ⟨h1.nums.2.2.2.2.2.1, h1.nums.2.2.2.2.2.2, h2.nums.2.2.2.2.2.1, h2.nums.2.2.2.2.2.2⟩
theorem PairK.low {B : Nat} {w : World} {d : Desc} (h : PairK B w d) {k : Nat} (hk : k < B) : ¬ d.own k := by
  obtain ⟨⟨vL, vW, vS, vM, L, Wr, Ls, Mk, C, hkp, _⟩, _, _, _, _, h6, _⟩ := h
  rintro (h | h | h | h | h)
  · exact h (hkp.lo k hk)
  all_goals omega
theorem PairK.cells {B : Nat} {w : World} {d : Desc} (h : PairK B w d) : w.cell? ⟨d.b, 0, none⟩ = some (.pointer (some ⟨d.bt, 0, none⟩)) ∧ w.cell? ⟨d.b, 1, none⟩ = some (.pointer (some ⟨d.br, 0, none⟩)) := by
  obtain ⟨⟨vL, vW, vS, vM, L, Wr, Ls, Mk, C, hkp, _⟩, _⟩ := h
  obtain ⟨c0, c1, _⟩ := keep_cells hkp.hb
  exact ⟨c0, c1⟩
theorem PairK.col0 {B : Nat} {w : World} {d : Desc} (h : PairK B w d) : d.col d.b = 0 ∧ d.b < w.heap.size := by
  obtain ⟨⟨vL, vW, vS, vM, L, Wr, Ls, Mk, C, hkp, _⟩, _⟩ := h
  exact ⟨hkp.cb, heap_lt hkp.hb⟩
/-- other blocks alone have changed -/
def Off (d : Desc) (w w' : World) : Prop := w'.os = w.os ∧ w'.tape = w.tape ∧ w'.output = w.output ∧ w.heap.size ≤ w'.heap.size ∧ ∀ k, k < w.heap.size → d.own k → w'.heap[k]? = w.heap[k]?
theorem TblAt.blocks {T : TypeId} {w w' : World} {b bw n : Nat} {S : Nat → Int × Int × Int} (h : TblAt T w b bw n S) (h1 : w'.heap[b]? = w.heap[b]?) (h2 : w'.heap[bw]? = w.heap[bw]?) : TblAt T w' b bw n S := by
  obtain ⟨cap, hb, k1, k2, k3, k4, k5, k6, k7, hr⟩ := h
  exact ⟨cap, h1.trans hb, k1, k2, k3, k4, k5, k6, k7, Row.of_block hr h2⟩
def Desc.cut (d : Desc) (s : Nat) : Desc := { d with col := fun k => if k < s then d.col k else 7 }
theorem PairK.off {B : Nat} {w w' : World} {d : Desc} (h : PairK B w d) (o : Off d w w') : PairK B w' (d.cut w.heap.size) := by
  have hlt := h.lt
  obtain ⟨⟨vL, vW, vS, vM, L, Wr, Ls, Mk, C, hkp, k1, k2, k3, k4⟩, h2, h3, h4, h5, h6, h7⟩ := h
  obtain ⟨o1, o2, o3, o4, o5⟩ := o
  have ec : ∀ x, x < w.heap.size → (d.cut w.heap.size).col x = d.col x := fun x hx => if_pos hx
  have ch : Chg (d.cut w.heap.size).col (fun c => c = 7) w w' := ⟨o1, o2, o3, o4, fun k hk hp => o5 k hk (.inl (by rw [ec k hk] at hp; exact hp))⟩
  refine ⟨⟨vL, vW, vS, vM, L, Wr, Ls, Mk, C, (hkp.recol (d.cut w.heap.size).col fun x hx _ => ec x hx).chg ch (fun _ h => .inl h), k1, k2, k3, k4⟩, h2, ?_, ?_, ?_, h6, h7⟩
  · exact h3.blocks (o5 _ hlt.1 (.inr (.inl rfl))) (o5 _ hlt.2.1 (.inr (.inr (.inl rfl))))
  · exact h4.blocks (o5 _ hlt.2.2.1 (.inr (.inr (.inr (.inl rfl))))) (o5 _ hlt.2.2.2 (.inr (.inr (.inr (.inr rfl)))))
  · exact ⟨(ec _ hlt.1).trans h5.1, (ec _ hlt.2.1).trans h5.2.1, (ec _ hlt.2.2.1).trans h5.2.2.1, (ec _ hlt.2.2.2).trans h5.2.2.2⟩
theorem cut_own {B : Nat} {w : World} {d : Desc} (h : PairK B w d) {k : Nat} (ho : (d.cut w.heap.size).own k) : k < w.heap.size ∧ d.own k := by
  have hlt := h.lt
  by_cases hk : k < w.heap.size
  · refine ⟨hk, ?_⟩
    rcases ho with e | e
    · exact .inl (by simpa [Desc.cut, hk] using e)
    · exact .inr e
  · exfalso
    rcases ho with e | e | e | e | e
    · exact e (if_neg hk)
    · simp only [Desc.cut] at e; omega
    · simp only [Desc.cut] at e; omega
    · simp only [Desc.cut] at e; omega
    · simp only [Desc.cut] at e; omega
/-- a step of a pair -/
def Act (B : Nat) (w w' : World) (d d' : Desc) : Prop :=
  PairK B w' d' ∧ (w'.os = w.os ∧ w'.tape = w.tape ∧ w'.output = w.output ∧ w.heap.size ≤ w'.heap.size ∧ ∀ k, k < w.heap.size → ¬ d.own k → w'.heap[k]? = w.heap[k]?) ∧ (∀ k, k < w.heap.size → d'.own k → d.own k) ∧ d'.b = d.b
theorem Act.refl {B : Nat} {w : World} {d : Desc} (h : PairK B w d) : Act B w w d d := ⟨h, ⟨rfl, rfl, rfl, Nat.le_refl _, fun _ _ _ => rfl⟩, fun _ _ h => h, rfl⟩
theorem Act.trans {B : Nat} {a b c : World} {d e f : Desc} (h : Act B a b d e) (g : Act B b c e f) : Act B a c d f := by
  obtain ⟨h1, ⟨p1, p2, p3, p4, p5⟩, h3, h4⟩ := h
  obtain ⟨g1, ⟨q1, q2, q3, q4, q5⟩, g3, g4⟩ := g
  exact ⟨g1, ⟨q1.trans p1, q2.trans p2, q3.trans p3, Nat.le_trans p4 q4, fun k hk ho => (q5 k (Nat.lt_of_lt_of_le hk p4) (fun q => ho (h3 k hk q))).trans (p5 k hk ho)⟩, fun k hk ho => h3 k hk (g3 k (Nat.lt_of_lt_of_le hk p4) ho), g4.trans h4⟩
theorem Act.below {B : Nat} {w w' : World} {d d' : Desc} (hp : PairK B w d) (h : Act B w w' d d') : Below B w w' := by
  obtain ⟨_, ⟨p1, p2, p3, p4, p5⟩, _, _⟩ := h
  exact ⟨p1, p2, p3, p4, fun k hk => p5 k (Nat.lt_of_lt_of_le hk hp.hB) (hp.low hk)⟩
theorem PairK.quiet {B : Nat} {w w' : World} {d : Desc} (h : PairK B w d) (o : Out 0 0 w w') : PairK B w' d := by
  obtain ⟨⟨vL, vW, vS, vM, L, Wr, Ls, Mk, C, hkp, k1, k2, k3, k4⟩, h2, h3, h4, h5, h6, h7⟩ := h
  exact ⟨⟨vL, vW, vS, vM, L, Wr, Ls, Mk, C, hkp.quiet o, k1, k2, k3, k4⟩, h2, h3.quiet o, h4.quiet o, h5, h6, h7⟩
theorem Act.quiet {B : Nat} {w w' : World} {d : Desc} (h : PairK B w d) (o : Out 0 0 w w') : Act B w w' d d :=
  ⟨h.quiet o, ⟨o.1, o.2.1, o.2.2.1, o.size, fun k hk _ => o.block hk (.inr (Nat.zero_le _))⟩, fun _ _ h => h, rfl⟩
theorem Act.out {B : Nat} {a b c : World} {d e : Desc} (h : Act B a b d e) (o : Out 0 0 b c) : Act B a c d e := h.trans (Act.quiet h.1 o)
/-- a step of both tables -/
theorem PairK.turn {B : Nat} {w w1 w2 : World} {d : Desc} {S' : Nat → Int × Int × Int} (h : PairK B w d) (o1 : Out d.bwt (d.bwt + 1) w w1) (t1 : TblAt 70 w1 d.bt d.bwt d.n S') (o2 : Out d.bwr (d.bwr + 1) w1 w2) (t2 : TblAt 61 w2 d.br d.bwr d.n S') : Act B w w2 d { d with S := S' } := by
  obtain ⟨⟨vL, vW, vS, vM, L, Wr, Ls, Mk, C, hkp, k1, k2, k3, k4⟩, h2, h3, h4, h5, h6, h7⟩ := h
  have c1 : Chg d.col (fun c => c = 7) w w1 := ⟨o1.1, o1.2.1, o1.2.2.1, o1.size, fun k hk hp => o1.block hk (by have : k ≠ d.bwt := fun e => hp (by rw [e]; exact h5.2.1); omega)⟩
  have c2 : Chg d.col (fun c => c = 7) w1 w2 := ⟨o2.1, o2.2.1, o2.2.2.1, o2.size, fun k hk hp => o2.block hk (by have : k ≠ d.bwr := fun e => hp (by rw [e]; exact h5.2.2.2); omega)⟩
  refine ⟨⟨⟨vL, vW, vS, vM, L, Wr, Ls, Mk, C, hkp.chg (c1.trans c2) (fun _ h => .inl h), k1, k2, k3, k4⟩, h2, ?_, t2, h5, h6, h7⟩, ⟨o2.1.trans o1.1, o2.2.1.trans o1.2.1, o2.2.2.1.trans o1.2.2.1, Nat.le_trans o1.size o2.size, fun k hk ho => ?_⟩, fun _ _ h => h, rfl⟩
  · exact t1.kept o2 (by have := h7.1; omega) (by have := h7.2.2; omega)
  · have n1 : k ≠ d.bwt := fun e => ho (.inr (.inr (.inl e)))
    have n2 : k ≠ d.bwr := fun e => ho (.inr (.inr (.inr (.inr e))))
    exact (o2.block (Nat.lt_of_lt_of_le hk o1.size) (by omega)).trans (o1.block hk (by omega))
/-- a step of what is kept: the tables stay -/
theorem PairK.fixed {B : Nat} {w w' : World} {d : Desc} {col' : Nat → Nat} {nl nm : Nat} {u : Bool} {vL vW vS vM : Value} {L Wr Ls : List Value} {Mk : List Nat} {C : Nat → List (Int × Int × Int)} (h : PairK B w d) (fx : Fix d.col col' w w')
    (hk : Keep B w' d.b (.pointer (some ⟨d.bt, 0, none⟩)) (.pointer (some ⟨d.br, 0, none⟩)) vL vW vS vM L Wr Ls Mk C col' none 0 u) (k1 : u = true → Wr.length = L.length) (k2 : L.length = nl) (k3 : Ls.length = Mk.length) (k4 : Mk.length = nm) (hn : Nums nl nm u) :
    Act B w w' d { d with nl := nl, nm := nm, u := u, col := col' } := by
  have hlt := h.lt
  obtain ⟨_, h2, h3, h4, h5, h6, h7⟩ := h
  refine ⟨⟨⟨vL, vW, vS, vM, L, Wr, Ls, Mk, C, hk, k1, k2, k3, k4⟩, hn, fx.table h3 h5.1 h5.2.1, fx.table h4 h5.2.2.1 h5.2.2.2, ⟨fx.2 _ hlt.1 h5.1, fx.2 _ hlt.2.1 h5.2.1, fx.2 _ hlt.2.2.1 h5.2.2.1, fx.2 _ hlt.2.2.2 h5.2.2.2⟩, h6, h7⟩, ⟨fx.1.1, fx.1.2.1, fx.1.2.2.1, fx.1.size, fun k hk ho => fx.1.2.2.2.2 k hk fun q => ho (.inl q)⟩, fun k hk ho => ?_, rfl⟩
  rcases ho with e | e
  · exact .inl fun q => e (fx.2 k hk q)
  · exact .inr e
/-! many pairs -/
def Sep (w : World) (d e : Desc) : Prop := ∀ k, k < w.heap.size → d.own k → ¬ e.own k
structure Pl (B : Nat) (w0 w : World) (L pa pb : Nat) (N : Nat) (D : Nat → Desc) (i0 i1 : Nat) (us : Bool) : Prop where
  hL : w.heap[L]? = some (.cells #[.pointer (some ⟨(D i0).b, 0, none⟩), .pointer (some ⟨(D i1).b, 0, none⟩)] 22 (0, 0))
  lo : B ≤ L
  n2 : 2 ≤ N
  h0 : i0 < N
  h1 : i1 < N
  a0 : (D 0).b = pa
  a1 : (D 1).b = pb
  pk : ∀ j, j < N → PairK B w (D j)
  sep : ∀ i j, i < N → j < N → i ≠ j → Sep w (D i) (D j)
  nL : ∀ j, j < N → ¬ (D j).own L
  bel : Below B w0 w
  hu : us = true → ∀ j, j < N → (D j).u = true
def updD (D : Nat → Desc) (s i : Nat) (d : Desc) : Nat → Desc := fun j => if j = i then d else (D j).cut s
theorem updD_self (D : Nat → Desc) (s i : Nat) (d : Desc) : updD D s i d i = d := if_pos rfl
theorem updD_other {D : Nat → Desc} {s i j : Nat} {d : Desc} (h : j ≠ i) : updD D s i d j = (D j).cut s := if_neg h
theorem updD_b {D : Nat → Desc} {s i : Nat} {d : Desc} (h : d.b = (D i).b) (j : Nat) : (updD D s i d j).b = (D j).b := by
  unfold updD
  by_cases e : j = i
  · rw [if_pos e, e, h]
  · rw [if_neg e]; rfl
theorem Pl.act {B : Nat} {w0 w w' : World} {L pa pb N i0 i1 : Nat} {D : Nat → Desc} {us : Bool} (h : Pl B w0 w L pa pb N D i0 i1 us) {i : Nat} (hi : i < N) {d' : Desc} (a : Act B w w' (D i) d') (hu' : us = true → d'.u = true) : Pl B w0 w' L pa pb N (updD D w.heap.size i d') i0 i1 us := by
  have hb := a.below (h.pk i hi)
  obtain ⟨g1, ⟨q1, q2, q3, q4, q5⟩, g3, g4⟩ := a
  have ek := updD_b (s := w.heap.size) g4
  have off : ∀ j, j < N → j ≠ i → Off (D j) w w' := fun j hj hne => ⟨q1, q2, q3, q4, fun k hk ho => q5 k hk (fun q => h.sep j i hj hi hne k hk ho q)⟩
  have ownc : ∀ j, j < N → j ≠ i → ∀ k, (updD D w.heap.size i d' j).own k → k < w.heap.size ∧ (D j).own k := fun j hj hne k ho => by
    rw [updD_other hne] at ho
    exact cut_own (h.pk j hj) ho
  refine { hL := ?_, lo := h.lo, n2 := h.n2, h0 := h.h0, h1 := h.h1, a0 := (ek 0).trans h.a0, a1 := (ek 1).trans h.a1, pk := ?_, sep := ?_, nL := ?_, bel := h.bel.trans hb, hu := ?_ }
  · rw [ek i0, ek i1, q5 L (heap_lt h.hL) (h.nL i hi)]; exact h.hL
  · intro j hj
    by_cases e : j = i
    · subst e; rw [updD_self]; exact g1
    · rw [updD_other e]; exact (h.pk j hj).off (off j hj e)
  · intro x y hx hy hne k hk ox oy
    by_cases ex : x = i
    · subst ex
      have hy' := ownc y hy (Ne.symm hne) k oy
      rw [updD_self] at ox
      exact h.sep x y hx hy hne k hy'.1 (g3 k hy'.1 ox) hy'.2
    · have hx' := ownc x hx ex k ox
      by_cases ey : y = i
      · subst ey
        rw [updD_self] at oy
        exact h.sep x y hx hy hne k hx'.1 hx'.2 (g3 k hx'.1 oy)
      · exact h.sep x y hx hy hne k hx'.1 hx'.2 (ownc y hy ey k oy).2
  · intro j hj ho
    by_cases e : j = i
    · subst e
      rw [updD_self] at ho
      exact h.nL j hj (g3 L (heap_lt h.hL) ho)
    · exact h.nL j hj (ownc j hj e L ho).2
  · intro hus j hj
    by_cases e : j = i
    · subst e; rw [updD_self]; exact hu' hus
    · rw [updD_other e]; exact h.hu hus j hj
theorem Pl.quiet {B : Nat} {w0 w w' : World} {L pa pb N i0 i1 : Nat} {D : Nat → Desc} {us : Bool} (h : Pl B w0 w L pa pb N D i0 i1 us) (o : Out 0 0 w w') : ∃ D', Pl B w0 w' L pa pb N D' i0 i1 us ∧ ∀ j, (D' j).b = (D j).b ∧ (D' j).bt = (D j).bt ∧ (D' j).bwt = (D j).bwt ∧ (D' j).br = (D j).br ∧ (D' j).bwr = (D j).bwr ∧ (D' j).n = (D j).n ∧ (D' j).S = (D j).S := by
  refine ⟨updD D w.heap.size 0 (D 0), h.act (i := 0) (by have := h.n2; omega) (Act.quiet (h.pk 0 (by have := h.n2; omega)) o) (fun e => h.hu e 0 (by have := h.n2; omega)), fun j => ?_⟩
  unfold updD
  by_cases e : j = 0
  · rw [if_pos e, e]; exact ⟨rfl, rfl, rfl, rfl, rfl, rfl, rfl⟩
  · rw [if_neg e]; exact ⟨rfl, rfl, rfl, rfl, rfl, rfl, rfl⟩
end Go.Proofs.YtfkmaanfgkkjcaaDoor
