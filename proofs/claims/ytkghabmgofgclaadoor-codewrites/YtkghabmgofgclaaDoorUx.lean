/- package code: a function is read -/
import Derived.Test.YtkghabmgofgclaaDoorUw
import Derived.Laws.MakeOwn
namespace Go.Proofs.YtkghabmgofgclaaDoor
open Go.RowKit
set_option linter.unusedVariables false
set_option linter.unusedSimpArgs false

theorem make_any {T E : TypeId} {z : Value} {sz by_ : Nat} (hT : Tryd.prog.underlying T = some (.slice E)) (hi : (Tryd.prog.info? E).map (fun i => (i.zero, i.size, i.bytes)) = some (some z, sz, by_)) (hb : by_ ≤ 1000) (m : Nat) (hm : m ≤ 100000) :
    ∃ cur : Array Value, cur.size = m * sz ∧ ∀ w : World, (Instr.makeSlice T (.int .i64 (m : Int)) (.int .i64 (m : Int))).run Tryd.prog w = .ok (.slice (some ⟨w.heap.size, 0, none⟩) m m) (w.alloc (.cells cur E)) := by
  obtain ⟨i0, hi, hz0, hz1, hz2⟩ := info_p hi
  refine ⟨madeCells z.cells (m * sz), size_madeCells _ _, fun w => ?_⟩
  have hbm : (by_ : Int) * (m : Int) ≤ 1000 * 100000 := by
    have : by_ * m ≤ 1000 * 100000 := Nat.mul_le_mul hb hm
    have h2 : ((by_ * m : Nat) : Int) ≤ ((1000 * 100000 : Nat) : Int) := Int.ofNat_le.2 this
    simpa using h2
  have := run_make (P := Tryd.prog) w T E i0 _ hT hi hz0 .i64 .i64 (m : Int) (m : Int) (by omega) (Int.le_refl _) (by rw [hz2]; omega) (by omega)
  rw [this, hz1]
  simp
theorem info_ins : (Tryd.prog.info? 61).map (fun i => (i.zero, i.size, i.bytes)) = some (some (.agg #[.int .i64 0, .int .i64 0]), 2, 16) := by kernel_rfl
/-- a row of m instructions, of which the first are these -/
def CR (w : World) (g m : Nat) (vs : List (Int × Int)) : Prop := ∃ cs : Array Value, Bl w g cs 61 ∧ cs.size = m * 2 ∧ ∀ (j : Nat) x, vs[j]? = some x → cs[j * 2]? = some (.int .i64 x.1) ∧ cs[j * 2 + 1]? = some (.int .i64 x.2)
theorem CR.of {w w' : World} {g m : Nat} {vs : List (Int × Int)} (h : CR w g m vs) (e : w'.heap[g]? = w.heap[g]?) : CR w' g m vs := by
  obtain ⟨cs, h1, h2, h3⟩ := h
  exact ⟨cs, e.trans h1, h2, h3⟩
theorem CR.lt {w : World} {g m : Nat} {vs : List (Int × Int)} (h : CR w g m vs) : g < w.heap.size := by
  obtain ⟨cs, h1, h2, h3⟩ := h
  exact h1.lt
theorem CR.kept {w w' : World} {g m lo hi : Nat} {vs : List (Int × Int)} (h : CR w g m vs) (o : Out lo hi w w') (h2 : g < lo ∨ hi ≤ g) : CR w' g m vs := h.of (o.block h.lt h2)
theorem CR.set {w : World} {g m : Nat} {vs : List (Int × Int)} (h : CR w g m vs) (hi : vs.length < m) (u v : Int) : CR ((w.setCell ⟨g, vs.length * 2, none⟩ (.int .i64 u)).setCell ⟨g, vs.length * 2 + 1, none⟩ (.int .i64 v)) g m (vs ++ [(u, v)]) := by
  obtain ⟨cs, h1, h2, h3⟩ := h
  refine ⟨_, (h1.set _ _).set _ _, by simpa using h2, fun j x hj => ?_⟩
  simp only [Array.getElem?_setIfInBounds, Array.size_setIfInBounds]
  rcases Nat.lt_or_ge j vs.length with q | q
  · rw [List.getElem?_append_left q] at hj
    obtain ⟨k1, k2⟩ := h3 j x hj
    rw [if_neg (by omega), if_neg (by omega), if_neg (by omega), if_neg (by omega)]
    exact ⟨k1, k2⟩
  · rw [List.getElem?_append_right q] at hj
    have e : j = vs.length := by
      rcases Nat.eq_or_lt_of_le q with q | q
      · exact q.symm
      · rw [List.getElem?_eq_none (by simp; omega)] at hj; cases hj
    subst e
    simp at hj
    subst hj
    rw [if_neg (by omega), if_pos rfl, if_pos (by omega), if_pos rfl, if_pos (by omega)]
    exact ⟨rfl, rfl⟩
theorem CR.cells {w : World} {g m : Nat} {vs : List (Int × Int)} (h : CR w g m vs) {i : Nat} (hi : i < m) : (∃ x, w.cell? ⟨g, i * 2, none⟩ = some x) ∧ (∃ x, w.cell? ⟨g, i * 2 + 1, none⟩ = some x) ∧ w.frozen? ⟨g, i * 2, none⟩ = false ∧ w.frozen? ⟨g, i * 2 + 1, none⟩ = false := by
  obtain ⟨cs, h1, h2, h3⟩ := h
  exact ⟨⟨_, h1.cell (Array.getElem?_eq_getElem (by omega))⟩, ⟨_, h1.cell (Array.getElem?_eq_getElem (by omega))⟩, h1.frozen _, h1.frozen _⟩
theorem CR.new (w : World) (cur : Array Value) (m : Nat) (h : cur.size = m * 2) : CR (w.alloc (.cells cur 61)) w.heap.size m [] := ⟨cur, Bl.new w cur _, h, fun j x hj => by simp at hj⟩
/-- in the midst of reading a function: the result's cell, the function's own -/
def FS (w W : World) (r B : Nat) (ba : Option Addr) (n cap : Nat) (bs : List Int) (c : Nat) (cs : Array Value) : Prop :=
  Bl W w.heap.size #[.int .i64 0, .int .i64 0, .int .i64 0, .slice none 0 0] 41 ∧ Bl W (w.heap.size + 1) cs 41 ∧ RD W r B ba n cap bs c ∧ Out r (r + 1) w W ∧ r < w.heap.size
section
variable {w W W2 : World} {r B n cap c c2 : Nat} {ba : Option Addr} {bs : List Int} {cs : Array Value}
theorem FS.step (h : FS w W r B ba n cap bs c cs) (o : Out r (r + 1) W W2) (hr : RD W2 r B ba n cap bs c2) : FS w W2 r B ba n cap bs c2 cs :=
  ⟨h.1.kept o (by have := h.2.2.2.2; omega), h.2.1.kept o (by have := h.2.2.2.2; omega), hr, h.2.2.2.1.trans o, h.2.2.2.2⟩
theorem FS.set (h : FS w W r B ba n cap bs c cs) (j : Nat) (v : Value) : FS w (W.setCell ⟨w.heap.size + 1, j, none⟩ v) r B ba n cap bs c (cs.setIfInBounds j v) := by
  have o : Out (w.heap.size + 1) (w.heap.size + 2) W (W.setCell ⟨w.heap.size + 1, j, none⟩ v) := (Out.refl _ _ W).setCell (p := ⟨w.heap.size + 1, j, none⟩) (.inl ⟨Nat.le_refl _, Nat.lt_succ_self _⟩) _
  exact ⟨h.1.kept o (.inl (by omega)), h.2.1.set j v, h.2.2.1.off o (by have := h.2.2.2.2; omega), h.2.2.2.1.setCell (.inr (by simp)) _, h.2.2.2.2⟩
theorem FS.quiet (h : FS w W r B ba n cap bs c cs) (o : Out 0 0 W W2) : FS w W2 r B ba n cap bs c cs :=
  ⟨h.1.kept o (.inr (Nat.zero_le _)), h.2.1.kept o (.inr (Nat.zero_le _)), h.2.2.1.out o, h.2.2.2.1.trans (o.any _ _), h.2.2.2.2⟩
theorem FS.far (h : FS w W r B ba n cap bs c cs) {g : Nat} (o : Out g (g + 1) W W2) (hg : w.heap.size + 1 < g) : FS w W2 r B ba n cap bs c cs :=
  ⟨h.1.kept o (.inl (by omega)), h.2.1.kept o (.inl (by omega)), h.2.2.1.off o (by have := h.2.2.2.2; omega), h.2.2.2.1.past o (by omega), h.2.2.2.2⟩
end
theorem fs_new {w : World} {r B n cap c : Nat} {ba : Option Addr} {bs : List Int} (h : RD w r B ba n cap bs c) : FS w ((w.alloc (.cells #[.int .i64 0, .int .i64 0, .int .i64 0, .slice none 0 0] 41)).alloc (.cells #[.int .i64 0, .int .i64 0, .int .i64 0, .slice none 0 0] 41)) r B ba n cap bs c #[.int .i64 0, .int .i64 0, .int .i64 0, .slice none 0 0] := by
  refine ⟨(Bl.new w _ _).alloc _, ?_, (h.alloc _).alloc _, ((Out.refl _ _ _).alloc _).alloc _, h.lt⟩
  have := Bl.new (w.alloc (.cells #[.int .i64 0, .int .i64 0, .int .i64 0, .slice none 0 0] 41)) #[.int .i64 0, .int .i64 0, .int .i64 0, .slice none 0 0] 41
  rwa [size_alloc] at this
theorem infoFn (v0 v1 v2 v3 : Value) : (Tryd.prog.info? 41).map (·.size) = some (#[v0, v1, v2, v3] : Array Value).size := by kernel_rfl
theorem load_fn {w : World} {g : Nat} {v0 v1 v2 v3 : Value} (hg : Bl w g #[v0, v1, v2, v3] 41) : (loadVar 41 ⟨g, 0, none⟩).run Tryd.prog w = .ok (.agg #[v0, v1, v2, v3]) w :=
  run_loadVar_row w g 41 41 _ (0, 0) _ hg Tryd.underlying41 rfl (infoFn v0 v1 v2 v3)
end Go.Proofs.YtkghabmgofgclaaDoor
