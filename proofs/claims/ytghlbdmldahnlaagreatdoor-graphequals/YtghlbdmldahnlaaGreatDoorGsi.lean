/- the law of chapter 10: a lent graph is a graph, whatever numbers stand in it -/
import Derived.Test.YtghlbdmldahnlaaGreatDoorGsh
namespace Go.Proofs.YtghlbdmldahnlaaGreatDoor
open Go.RowKit
set_option linter.unusedVariables false
set_option linter.unusedSimpArgs false

theorem tm_neg {x : Int} {n : Nat} (hn : 0 < n) (hs : n ≤ 200000) (h : x.tmod (n : Int) < 0) : wrap64 (x.tmod (n : Int) + (n : Int)) = ((x.tmod (n : Int) + (n : Int)).toNat : Int) ∧ (x.tmod (n : Int) + (n : Int)).toNat < n := by
  have h1 : -(n : Int) < x.tmod (n : Int) := by
    have := Int.lt_tmod_of_pos x (show (0 : Int) < (n : Int) by omega)
    omega
  refine ⟨?_, by omega⟩
  unfold wrap64
  omega
theorem tm_pos {x : Int} {n : Nat} (hn : 0 < n) (h : ¬ x.tmod (n : Int) < 0) : x.tmod (n : Int) = ((x.tmod (n : Int)).toNat : Int) ∧ (x.tmod (n : Int)).toNat < n := by
  have h1 : x.tmod (n : Int) < (n : Int) := Int.tmod_lt_of_pos x (by omega)
  omega
def wiK (x : Int) (n : Nat) : Nat := if x.tmod (n : Int) < 0 then (x.tmod (n : Int) + (n : Int)).toNat else (x.tmod (n : Int)).toNat
theorem wiK_lt {x : Int} {n : Nat} (hn : 0 < n) (hs : n ≤ 200000) : wiK x n < n := by
  unfold wiK
  split
  · exact (tm_neg hn hs (by assumption)).2
  · exact (tm_pos hn (by assumption)).2
theorem ret_i {x y : Int} (h : x = y) : Ending.returned (.int .i64 x) = .returned (.int .i64 y) := by rw [h]
set_option maxRecDepth 100000 in
set_option maxHeartbeats 4000000 in
theorem within_any {w : World} (x : Int) (n : Nat) (hn : 0 < n) (hs : n ≤ 200000) : Calls Tryz.prog 20 #[.int .i64 x, .int .i64 n] w fun e w' => e = .returned (.int .i64 ((wiK x n : Nat) : Int)) ∧ w' = w := by
  have n1 : (0 : Int) < (n : Int) := by omega
  by_cases h0 : x.tmod (n : Int) < 0
  · have HE : Hid (wrap64 (x.tmod (n : Int) + (n : Int)) = ((wiK x n : Nat) : Int)) := hid_mk (by unfold wiK; rw [if_pos h0]; exact (tm_neg hn hs h0).1)
    obtain ⟨y, hy⟩ : ∃ y, x.tmod (n : Int) = y := ⟨_, rfl⟩
    have hd : decide (y < 0) = true := by rw [← hy]; simpa using h0
    rw [hy] at h0
    rw [hy] at HE
    go_enter Tryz.func20, Tryz.ntmps20
    go_wp2
    go_ret
    exact ⟨ret_i HE.out, rfl⟩
  · have HE : Hid (x.tmod (n : Int) = ((wiK x n : Nat) : Int)) := hid_mk (by unfold wiK; rw [if_neg h0]; exact (tm_pos hn h0).1)
    obtain ⟨y, hy⟩ : ∃ y, x.tmod (n : Int) = y := ⟨_, rfl⟩
    have hd : decide (y < 0) = false := by rw [← hy]; simpa using h0
    rw [hy] at h0
    rw [hy] at HE
    go_enter Tryz.func20, Tryz.ntmps20
    go_wp2
    go_ret
    exact ⟨ret_i HE.out, rfl⟩
/-- m numbers in a block that is not older than lo -/
def IU (w : World) (lo g m : Nat) : Prop := lo ≤ g ∧ g < w.heap.size ∧ (∀ j, j < m → ∃ x, w.cell? ⟨g, j, none⟩ = some (.int .i64 x)) ∧ ∀ j, w.frozen? ⟨g, j, none⟩ = false
def NU (w : World) (lo g i : Nat) : Prop := ∃ a k gr lr cr gf lf cf ge le ce, w.cell? ⟨g, i * 5, none⟩ = some (.int .i64 a) ∧ w.cell? ⟨g, i * 5 + 1, none⟩ = some (.int .i64 k) ∧ w.cell? ⟨g, i * 5 + 2, none⟩ = some (.slice (some ⟨gr, 0, none⟩) lr cr) ∧ w.cell? ⟨g, i * 5 + 3, none⟩ = some (.slice (some ⟨gf, 0, none⟩) lf cf) ∧ w.cell? ⟨g, i * 5 + 4, none⟩ = some (.slice (some ⟨ge, 0, none⟩) le ce) ∧
  lr ≤ 200000 ∧ lf ≤ 100000 ∧ le ≤ 50000 ∧ IU w lo gr (lr * 1) ∧ IU w lo gf (lf * 2) ∧ IU w lo ge (le * 4)
/-- a graph, whatever stands in it -/
def GU (w : World) (lo gn gr nn nr : Nat) : Prop := gn < w.heap.size ∧ nn ≤ 200000 ∧ nr ≤ 100000 ∧ (∀ i, i < nn → NU w lo gn i) ∧ IU w lo gr (nr * 2)
/-- a world whose numbers alone may be others -/
def Tn (w w' : World) : Prop := w.heap.size ≤ w'.heap.size ∧ (∀ g j, g < w.heap.size → (w'.frozen? ⟨g, j, none⟩ = w.frozen? ⟨g, j, none⟩) ∧ (∀ x, w.cell? ⟨g, j, none⟩ = some (.int .i64 x) → ∃ y, w'.cell? ⟨g, j, none⟩ = some (.int .i64 y)) ∧ ∀ p n c, w.cell? ⟨g, j, none⟩ = some (.slice p n c) → w'.cell? ⟨g, j, none⟩ = some (.slice p n c))
theorem Tn.of_out {w w' : World} (o : Out 0 0 w w') : Tn w w' := by
  refine ⟨o.size, fun g j hg => ?_⟩
  have hb := o.block hg (.inr (Nat.zero_le _))
  refine ⟨by simp [World.frozen?, hb], fun x h => ⟨x, o.cell h (.inr (Nat.zero_le _))⟩, fun p n c h => o.cell h (.inr (Nat.zero_le _))⟩
theorem Tn.set {w : World} {g j : Nat} {x : Int} (h : w.cell? ⟨g, j, none⟩ = some (.int .i64 x)) (y : Int) : Tn w (w.setCell ⟨g, j, none⟩ (.int .i64 y)) := by
  refine ⟨by simp, fun g' j' hg => ⟨World.frozen?_setCell _ _ _ _, fun x' h' => ?_, fun p n c h' => ?_⟩⟩
  · by_cases e : (⟨g, j, none⟩ : Addr) = ⟨g', j', none⟩
    · rw [← e] at h' ⊢
      exact ⟨y, World.cell?_setCell_same _ _ _ h'⟩
    · exact ⟨x', (World.cell?_setCell_other _ _ _ _ e).trans h'⟩
  · have e : (⟨g, j, none⟩ : Addr) ≠ ⟨g', j', none⟩ := fun e => by rw [← e, h] at h'; cases h'
    exact (World.cell?_setCell_other _ _ _ _ e).trans h'
theorem Tn.trans {a b c : World} (h : Tn a b) (h' : Tn b c) : Tn a c := by
  refine ⟨Nat.le_trans h.1 h'.1, fun g j hg => ?_⟩
  have h1 := h.2 g j hg
  have h2 := h'.2 g j (Nat.lt_of_lt_of_le hg h.1)
  refine ⟨h2.1.trans h1.1, fun x q => ?_, fun p n c q => h2.2.2 _ _ _ (h1.2.2 _ _ _ q)⟩
  obtain ⟨y, q'⟩ := h1.2.1 x q
  exact h2.2.1 y q'
theorem IU.tn {w w' : World} {lo g m : Nat} (h : IU w lo g m) (t : Tn w w') : IU w' lo g m := by
  refine ⟨h.1, Nat.lt_of_lt_of_le h.2.1 t.1, fun j hj => ?_, fun j => (t.2 g j h.2.1).1.trans (h.2.2.2 j)⟩
  obtain ⟨x, hx⟩ := h.2.2.1 j hj
  exact (t.2 g j h.2.1).2.1 x hx
theorem NU.tn {w w' : World} {lo g i : Nat} (hg : g < w.heap.size) (h : NU w lo g i) (t : Tn w w') : NU w' lo g i := by
  obtain ⟨a, k, gr, lr, cr, gf, lf, cf, ge, le, ce, c0, c1, c2, c3, c4, b1, b2, b3, i1, i2, i3⟩ := h
  obtain ⟨a', d0⟩ := (t.2 g _ hg).2.1 _ c0
  obtain ⟨k', d1⟩ := (t.2 g _ hg).2.1 _ c1
  exact ⟨a', k', gr, lr, cr, gf, lf, cf, ge, le, ce, d0, d1, (t.2 g _ hg).2.2 _ _ _ c2, (t.2 g _ hg).2.2 _ _ _ c3, (t.2 g _ hg).2.2 _ _ _ c4, b1, b2, b3, i1.tn t, i2.tn t, i3.tn t⟩
theorem GU.tn {w w' : World} {lo gn gr nn nr : Nat} (h : GU w lo gn gr nn nr) (t : Tn w w') : GU w' lo gn gr nn nr :=
  ⟨Nat.lt_of_lt_of_le h.1 t.1, h.2.1, h.2.2.1, fun i hi => (h.2.2.2.1 i hi).tn h.1 t, h.2.2.2.2.tn t⟩
theorem GU.quiet {w w' : World} {lo gn gr nn nr : Nat} (h : GU w lo gn gr nn nr) (o : Out 0 0 w w') : GU w' lo gn gr nn nr := h.tn (.of_out o)
theorem list_of {α : Type} {P : Nat → α → Prop} : ∀ (m : Nat), (∀ j, j < m → ∃ x, P j x) → ∃ l : List α, l.length = m ∧ ∀ (j : Nat) x, l[j]? = some x → P j x
  | 0, _ => ⟨[], rfl, fun j x h => by simp at h⟩
  | m + 1, h => by
    obtain ⟨l, h1, h2⟩ := list_of m fun j hj => h j (by omega)
    obtain ⟨x, hx⟩ := h m (by omega)
    refine ⟨l ++ [x], by simp [h1], fun j y hy => ?_⟩
    by_cases hj : j < l.length
    · rw [List.getElem?_append_left hj] at hy
      exact h2 j y hy
    · have hlt := (List.getElem?_eq_some_iff.1 hy).1
      simp at hlt
      obtain rfl : j = l.length := by omega
      simp at hy
      subst hy
      rw [h1]
      exact hx
theorem IU.is {w : World} {lo g m : Nat} (h : IU w lo g m) : ∃ l : List Int, l.length = m ∧ IsIn w w.heap.size (some ⟨g, 0, none⟩) l := by
  obtain ⟨l, h1, h2⟩ := list_of m h.2.2.1
  exact ⟨l, h1, .inr ⟨g, 0, rfl, h.2.1, fun j x hx => by rw [Nat.zero_add]; exact h2 j x hx⟩⟩
theorem NU.is {w : World} {lo g i : Nat} (h : NU w lo g i) : ∃ n : Int × Int × List Int × List Int × List Int, NdC w w.heap.size g (0 + i * 5) n ∧ n.2.2.1.length ≤ 200000 ∧ n.2.2.2.1.length ≤ 200000 ∧ n.2.2.2.2.length ≤ 200000 := by
  obtain ⟨a, k, gr, lr, cr, gf, lf, cf, ge, le, ce, c0, c1, c2, c3, c4, b1, b2, b3, i1, i2, i3⟩ := h
  obtain ⟨r, r1, r2⟩ := i1.is
  obtain ⟨f, f1, f2⟩ := i2.is
  obtain ⟨e, e1, e2⟩ := i3.is
  refine ⟨(a, k, r, f, e), ?_, by simp only []; omega, by simp only []; omega, by simp only []; omega⟩
  rw [Nat.zero_add]
  exact ⟨_, lr, cr, _, lf, cf, _, le, ce, c0, c1, c2, c3, c4, r1, f1, e1, r2, f2, e2⟩
theorem GU.is {w : World} {lo gn gr nn nr : Nat} (h : GU w lo gn gr nn nr) : ∃ ns rs, GrIn w w.heap.size (some ⟨gn, 0, none⟩) (some ⟨gr, 0, none⟩) nn nr ns rs := by
  obtain ⟨ns, h1, h2⟩ := list_of nn fun i hi => (h.2.2.2.1 i hi).is
  obtain ⟨rs, r1, r2⟩ := h.2.2.2.2.is
  refine ⟨ns, rs, h1, r1, .inr ⟨gn, 0, rfl, h.1, fun i n hn => (h2 i n hn).1⟩, r2, ⟨by have := h.2.1; omega, fun n hn => ?_⟩, by have := h.2.2.1; omega⟩
  obtain ⟨i, hi, e⟩ := List.getElem_of_mem hn
  exact (h2 i n (by rw [List.getElem?_eq_getElem hi, e])).2
theorem RL.iu {w : World} {lo : Nat} {E : TypeId} {s : Nat} {mk l : List Int} {v : Value} (h : RL w lo E s mk v l) (hm : mk.length = s) (hs : 0 < s) : ∃ g n c, v = .slice (some ⟨g, 0, none⟩) n c ∧ l.length = n * s ∧ n + 1 ≤ c ∧ IU w lo g (n * s) ∧ IsIn w w.heap.size (some ⟨g, 0, none⟩) l ∧ ∀ (j : Nat) x, mk[j]? = some x → w.cell? ⟨g, n * s + j, none⟩ = some (.int .i64 x) := by
  obtain ⟨g, c, n, rfl, h1, h2, h3, h4, h5, h6, h7⟩ := h.in hm hs
  refine ⟨g, n, c, rfl, h1, h2, ⟨h3, h4, fun j hj => ?_, h7⟩, .inr ⟨g, 0, rfl, h4, fun j x hx => by rw [Nat.zero_add]; exact h5 j x hx⟩, h6⟩
  obtain ⟨x, hx⟩ : ∃ x, l[j]? = some x := ⟨_, List.getElem?_eq_getElem (by omega)⟩
  exact ⟨x, h5 j x hx⟩
/-- the j-th node of a lent graph -/
theorem LnAt.nd {w : World} {lo gn cn : Nat} {vs : List (Value × Value × Value)} {rv : Value} {ns : List (Int × Int × List Int × List Int × List Int)} {rs : List Int} (h : LnAt w lo gn cn vs rv ns rs) {i : Nat} {n : Int × Int × List Int × List Int × List Int} (hn : ns[i]? = some n) : ∃ gr lr cr gf lf cf ge le ce, w.cell? ⟨gn, i * 5, none⟩ = some (.int .i64 n.1) ∧ w.cell? ⟨gn, i * 5 + 1, none⟩ = some (.int .i64 n.2.1) ∧ w.cell? ⟨gn, i * 5 + 2, none⟩ = some (.slice (some ⟨gr, 0, none⟩) lr cr) ∧ w.cell? ⟨gn, i * 5 + 3, none⟩ = some (.slice (some ⟨gf, 0, none⟩) lf cf) ∧ w.cell? ⟨gn, i * 5 + 4, none⟩ = some (.slice (some ⟨ge, 0, none⟩) le ce) ∧
    n.2.2.1.length = lr * 1 ∧ n.2.2.2.1.length = lf * 2 ∧ n.2.2.2.2.length = le * 4 ∧ (lr + 1 ≤ cr ∧ lf + 1 ≤ cf ∧ le + 1 ≤ ce) ∧ (IU w lo gr (lr * 1) ∧ IU w lo gf (lf * 2) ∧ IU w lo ge (le * 4)) ∧ (IsIn w w.heap.size (some ⟨gr, 0, none⟩) n.2.2.1 ∧ IsIn w w.heap.size (some ⟨gf, 0, none⟩) n.2.2.2.1 ∧ IsIn w w.heap.size (some ⟨ge, 0, none⟩) n.2.2.2.2) ∧
    w.cell? ⟨gr, lr, none⟩ = some (.int .i64 (-77)) ∧ w.cell? ⟨gf, lf * 2, none⟩ = some (.int .i64 77) ∧ w.cell? ⟨ge, le * 4, none⟩ = some (.int .i64 77) := by
  obtain ⟨h1, h2, h3⟩ := h
  obtain ⟨g', cur, e, -, q2, -⟩ := own_cellsX h1 (by omega)
  cases e
  obtain ⟨⟨vr, vf, ve⟩, hv⟩ : ∃ v, vs[i]? = some v := ⟨_, List.getElem?_eq_getElem (by have := (List.getElem?_eq_some_iff.1 hn).1; have := h2.1; omega)⟩
  obtain ⟨a0, a1, a2, a3, a4⟩ := ncl_at hn hv
  obtain ⟨l1, l2, l3⟩ := h2.2 i _ _ hv hn
  obtain ⟨gr, lr, cr, e1, r1, r2, r3, r4, r5⟩ := l1.iu rfl (by decide)
  obtain ⟨gf, lf, cf, e2, f1, f2, f3, f4, f5⟩ := l2.iu rfl (by decide)
  obtain ⟨ge, le, ce, e3, k1, k2, k3, k4, k5⟩ := l3.iu rfl (by decide)
  simp only [] at e1 e2 e3 a2 a3 a4
  subst e1 e2 e3
  have up : ∀ {j : Nat} {u : Value}, (ncl ns vs)[j]? = some u → w.cell? ⟨gn, j, none⟩ = some u := fun {j u} hj => q2 j u (by rw [List.getElem?_append_left (List.getElem?_eq_some_iff.1 hj).1]; exact hj)
  refine ⟨gr, lr, cr, gf, lf, cf, ge, le, ce, up a0, up a1, up a2, up a3, up a4, r1, f1, k1, ⟨r2, f2, k2⟩, ⟨r3, f3, k3⟩, ⟨r4, f4, k4⟩, ?_, ?_, ?_⟩
  · have := r5 0 _ rfl
    simpa using this
  · exact f5 0 _ rfl
  · exact k5 0 _ rfl
/-- a lent graph in memory; its marks -/
theorem LnAt.gr {w : World} {lo gn cn : Nat} {vs : List (Value × Value × Value)} {rv : Value} {ns : List (Int × Int × List Int × List Int × List Int)} {rs : List Int} (h : LnAt w lo gn cn vs rv ns rs) (hs : Sn ns) (hr : rs.length ≤ 200000) : ∃ gr nr cr, rv = .slice (some ⟨gr, 0, none⟩) nr cr ∧ rs.length = nr * 2 ∧ GrIn w w.heap.size (some ⟨gn, 0, none⟩) (some ⟨gr, 0, none⟩) ns.length nr ns rs ∧ GU w lo gn gr ns.length nr ∧ (ns.length + 1 ≤ cn ∧ nr + 1 ≤ cr) ∧ w.cell? ⟨gn, ns.length * 5, none⟩ = some (.int .i64 (-77)) ∧ w.cell? ⟨gr, nr * 2, none⟩ = some (.int .i64 77) := by
  obtain ⟨gr, nr, cr, e1, r1, r2, r3, r4, r5⟩ := h.2.2.iu rfl (by decide)
  obtain ⟨g', cur, e, q1, q2, q3, q4, q5, -⟩ := own_cellsX h.1 (by omega)
  cases e
  refine ⟨gr, nr, cr, e1, r1, ⟨rfl, r1, .inr ⟨gn, 0, rfl, q3.lt, fun i n hn => ?_⟩, r4, hs, hr⟩, ⟨q3.lt, hs.1, by omega, fun i hi => ?_, r3⟩, ⟨q5, r2⟩, ?_, r5 0 _ rfl⟩
  · obtain ⟨pr, lr, cr', pf, lf, cf, pe, le, ce, c0, c1, c2, c3, c4, l1, l2, l3, -, -, ⟨i1, i2, i3⟩, -⟩ := h.nd hn
    rw [Nat.zero_add]
    exact ⟨_, lr, cr', _, lf, cf, _, le, ce, c0, c1, c2, c3, c4, l1, l2, l3, i1, i2, i3⟩
  · obtain ⟨n, hn⟩ : ∃ n, ns[i]? = some n := ⟨_, List.getElem?_eq_getElem hi⟩
    obtain ⟨pr, lr, cr', pf, lf, cf, pe, le, ce, c0, c1, c2, c3, c4, l1, l2, l3, -, ⟨i1, i2, i3⟩, -⟩ := h.nd hn
    have hb := hs.2 n (List.mem_of_getElem? hn)
    exact ⟨_, _, _, lr, cr', _, lf, cf, _, le, ce, c0, c1, c2, c3, c4, by omega, by omega, by omega, i1, i2, i3⟩
  · refine q2 _ _ ?_
    rw [List.getElem?_append_right (by rw [ncl_len h.2.1.1]; omega), ncl_len h.2.1.1]
    simp
end Go.Proofs.YtghlbdmldahnlaaGreatDoor
