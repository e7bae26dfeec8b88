/- package code: rows of texts and functions -/
import Derived.Test.YtkghabmgofgclaaDoorUy
namespace Go.Proofs.YtkghabmgofgclaaDoor
open Go.RowKit
set_option linter.unusedVariables false
set_option linter.unusedSimpArgs false

theorem info_bytes : (Tryd.prog.info? 33).map (fun i => (i.zero, i.size, i.bytes)) = some (some (.slice none 0 0), 1, 24) := by kernel_rfl
theorem info_func : (Tryd.prog.info? 41).map (fun i => (i.zero, i.size, i.bytes)) = some (some (.agg #[.int .i64 0, .int .i64 0, .int .i64 0, .slice none 0 0]), 4, 48) := by kernel_rfl
/-- a row of m texts, of which the first are these, each in a row of its own behind the row's block, below hi -/
def TR (w : World) (g hi m : Nat) (ts : List (List Int)) : Prop := ∃ cs : Array Value, Bl w g cs 33 ∧ cs.size = m ∧ ∀ (j : Nat) t, ts[j]? = some t → Byt t ∧ ∃ A' C', cs[j]? = some (.slice A' t.length C') ∧ w.ownsRow (g + 1) 5 1 (.slice A' t.length C') t.length (bvs t) ∧ ∀ q, (Value.slice A' t.length C').ownBlock = some q → q < hi
/-- a row of m functions likewise -/
def FR (w : World) (g hi m : Nat) (fs : List (Int × Int × Int × List (Int × Int))) : Prop := ∃ cs : Array Value, Bl w g cs 41 ∧ cs.size = m * 4 ∧ ∀ (j : Nat) f, fs[j]? = some f → ∃ gc, g < gc ∧ gc < hi ∧ cs[j * 4]? = some (.int .i64 f.1) ∧ cs[j * 4 + 1]? = some (.int .i64 f.2.1) ∧ cs[j * 4 + 2]? = some (.int .i64 f.2.2.1) ∧ cs[j * 4 + 3]? = some (.slice (some ⟨gc, 0, none⟩) f.2.2.2.length f.2.2.2.length) ∧ CR w gc f.2.2.2.length f.2.2.2
theorem TR.lt {w : World} {g hi m : Nat} {ts : List (List Int)} (h : TR w g hi m ts) : g < w.heap.size := by
  obtain ⟨cs, h1, _⟩ := h; exact h1.lt
theorem FR.lt {w : World} {g hi m : Nat} {fs : List (Int × Int × Int × List (Int × Int))} (h : FR w g hi m fs) : g < w.heap.size := by
  obtain ⟨cs, h1, _⟩ := h; exact h1.lt
theorem TR.fx {w w' : World} {g hi m : Nat} {ts : List (List Int)} (h : TR w g hi m ts) {S : Nat → Prop} (x : Fx S w w') (hS : ∀ k, g ≤ k → k < hi → ¬ S k) (hg : g < hi) : TR w' g hi m ts := by
  obtain ⟨cs, h1, h2, h3⟩ := h
  refine ⟨cs, h1.fx x (hS g (Nat.le_refl _) hg), h2, fun j t hj => ?_⟩
  obtain ⟨hb, A', C', k1, k2, k3⟩ := h3 j t hj
  exact ⟨hb, A', C', k1, own_fx k2 x fun q hq => hS q (by have := (own_ge k2 hq).1; omega) (k3 q hq), k3⟩
theorem FR.fx {w w' : World} {g hi m : Nat} {fs : List (Int × Int × Int × List (Int × Int))} (h : FR w g hi m fs) {S : Nat → Prop} (x : Fx S w w') (hS : ∀ k, g ≤ k → k < hi → ¬ S k) (hg : g < hi) : FR w' g hi m fs := by
  obtain ⟨cs, h1, h2, h3⟩ := h
  refine ⟨cs, h1.fx x (hS g (Nat.le_refl _) hg), h2, fun j f hj => ?_⟩
  obtain ⟨gc, a1, a2, a3, a4, a5, a6, a7⟩ := h3 j f hj
  exact ⟨gc, a1, a2, a3, a4, a5, a6, a7.of (x.2.2.2.2 gc a7.lt (hS gc (by omega) a2))⟩
theorem fx_of {lo hi : Nat} {w w' : World} (o : Out lo hi w w') : Fx (fun k => lo ≤ k ∧ k < hi) w w' := ⟨o.1, o.2.1, o.2.2.1, o.size, fun k h1 h2 => o.block h1 (by omega)⟩
theorem TR.kept {w w' : World} {g hi m lo' hi' : Nat} {ts : List (List Int)} (h : TR w g hi m ts) (o : Out lo' hi' w w') (hS : hi' ≤ g ∨ hi ≤ lo') (hg : g < hi) : TR w' g hi m ts := h.fx (fx_of o) (fun k h1 h2 q => by omega) hg
theorem FR.kept {w w' : World} {g hi m lo' hi' : Nat} {fs : List (Int × Int × Int × List (Int × Int))} (h : FR w g hi m fs) (o : Out lo' hi' w w') (hS : hi' ≤ g ∨ hi ≤ lo') (hg : g < hi) : FR w' g hi m fs := h.fx (fx_of o) (fun k h1 h2 q => by omega) hg
theorem TR.up {w : World} {g hi hi2 m : Nat} {ts : List (List Int)} (h : TR w g hi m ts) (h2 : hi ≤ hi2) : TR w g hi2 m ts := by
  obtain ⟨cs, h1, h3, h4⟩ := h
  refine ⟨cs, h1, h3, fun j t hj => ?_⟩
  obtain ⟨hb, A', C', k1, k2, k3⟩ := h4 j t hj
  exact ⟨hb, A', C', k1, k2, fun q hq => Nat.lt_of_lt_of_le (k3 q hq) h2⟩
theorem FR.up {w : World} {g hi hi2 m : Nat} {fs : List (Int × Int × Int × List (Int × Int))} (h : FR w g hi m fs) (h2 : hi ≤ hi2) : FR w g hi2 m fs := by
  obtain ⟨cs, h1, h3, h4⟩ := h
  refine ⟨cs, h1, h3, fun j t hj => ?_⟩
  obtain ⟨gc, a1, a2, a3⟩ := h4 j t hj
  exact ⟨gc, a1, Nat.lt_of_lt_of_le a2 h2, a3⟩
theorem TR.new (w : World) (cur : Array Value) (m : Nat) (h : cur.size = m * 1) : TR (w.alloc (.cells cur 33)) w.heap.size (w.heap.size + 1) m [] := ⟨cur, Bl.new w cur _, by omega, fun j x hj => by simp at hj⟩
theorem FR.new (w : World) (cur : Array Value) (m : Nat) (h : cur.size = m * 4) : FR (w.alloc (.cells cur 41)) w.heap.size (w.heap.size + 1) m [] := ⟨cur, Bl.new w cur _, h, fun j x hj => by simp at hj⟩
theorem TR.cells {w : World} {g hi m : Nat} {ts : List (List Int)} (h : TR w g hi m ts) {i : Nat} (hi : i < m) : (∃ x, w.cell? ⟨g, i, none⟩ = some x) ∧ w.frozen? ⟨g, i, none⟩ = false := by
  obtain ⟨cs, h1, h2, h3⟩ := h
  exact ⟨⟨_, h1.cell (Array.getElem?_eq_getElem (by omega))⟩, h1.frozen _⟩
theorem TR.set {w : World} {g hi m : Nat} {ts : List (List Int)} (h : TR w g hi m ts) (hi2 : ts.length < m) (hgh : g < hi) {t : List Int} {A' : Option Addr} {C' : Nat} (hB : Byt t) (ho : w.ownsRow (g + 1) 5 1 (.slice A' t.length C') t.length (bvs t)) (hq : ∀ q, (Value.slice A' t.length C').ownBlock = some q → q < hi) : TR (w.setCell ⟨g, ts.length, none⟩ (.slice A' t.length C')) g hi m (ts ++ [t]) := by
  obtain ⟨cs, h1, h2, h3⟩ := h
  have x : Fx (fun k => k = g) w (w.setCell ⟨g, ts.length, none⟩ (.slice A' t.length C')) := (Fx.refl (fun k => k = g) w).set (p := ⟨g, ts.length, none⟩) (.inl rfl) _
  refine ⟨_, h1.set _ _, by simpa using h2, fun j y hj => ?_⟩
  rcases Nat.lt_or_ge j ts.length with q | q
  · rw [List.getElem?_append_left q] at hj
    obtain ⟨hb, B', D', k1, k2, k3⟩ := h3 j y hj
    refine ⟨hb, B', D', ?_, own_fx k2 x fun u hu e => ?_, k3⟩
    · rw [Array.getElem?_setIfInBounds_ne (by omega)]; exact k1
    · have := (own_ge k2 hu).1; omega
  · rw [List.getElem?_append_right q] at hj
    have e : j = ts.length := by
      rcases Nat.eq_or_lt_of_le q with q | q
      · exact q.symm
      · rw [List.getElem?_eq_none (by simp; omega)] at hj; cases hj
    subst e
    simp at hj
    subst hj
    refine ⟨hB, A', C', ?_, own_fx ho x fun u hu e => ?_, hq⟩
    · rw [Array.getElem?_setIfInBounds]; rw [if_pos rfl, if_pos (by omega)]
    · have := (own_ge ho hu).1; omega
theorem FR.cells {w : World} {g hi m : Nat} {fs : List (Int × Int × Int × List (Int × Int))} (h : FR w g hi m fs) {i : Nat} (hi : i < m) : ∃ cs, Bl w g cs 41 ∧ cs.size = m * 4 := by
  obtain ⟨cs, h1, h2, h3⟩ := h
  exact ⟨cs, h1, h2⟩
theorem FR.set {w : World} {g hi m gc : Nat} {fs : List (Int × Int × Int × List (Int × Int))} (h : FR w g hi m fs) (hi2 : fs.length < m) (hgh : g < hi) (f : Int × Int × Int × List (Int × Int)) (h1 : g < gc) (h2 : gc < hi) (hc : CR w gc f.2.2.2.length f.2.2.2) :
    FR ((((w.setCell ⟨g, fs.length * 4, none⟩ (.int .i64 f.1)).setCell ⟨g, fs.length * 4 + 1, none⟩ (.int .i64 f.2.1)).setCell ⟨g, fs.length * 4 + 2, none⟩ (.int .i64 f.2.2.1)).setCell ⟨g, fs.length * 4 + 3, none⟩ (.slice (some ⟨gc, 0, none⟩) f.2.2.2.length f.2.2.2.length)) g hi m (fs ++ [f]) := by
  obtain ⟨cs, k1, k2, k3⟩ := h
  have x : Fx (fun k => k = g) w ((((w.setCell ⟨g, fs.length * 4, none⟩ (.int .i64 f.1)).setCell ⟨g, fs.length * 4 + 1, none⟩ (.int .i64 f.2.1)).setCell ⟨g, fs.length * 4 + 2, none⟩ (.int .i64 f.2.2.1)).setCell ⟨g, fs.length * 4 + 3, none⟩ (.slice (some ⟨gc, 0, none⟩) f.2.2.2.length f.2.2.2.length)) := ((((Fx.refl (fun k => k = g) w).set (p := ⟨g, _, none⟩) (.inl rfl) _).set (p := ⟨g, _, none⟩) (.inl rfl) _).set (p := ⟨g, _, none⟩) (.inl rfl) _).set (p := ⟨g, _, none⟩) (.inl rfl) _
  refine ⟨_, (((k1.set _ _).set _ _).set _ _).set _ _, by simpa using k2, fun j y hj => ?_⟩
  simp only [Array.getElem?_setIfInBounds, Array.size_setIfInBounds]
  rcases Nat.lt_or_ge j fs.length with q | q
  · rw [List.getElem?_append_left q] at hj
    obtain ⟨gd, a1, a2, a3, a4, a5, a6, a7⟩ := k3 j y hj
    refine ⟨gd, a1, a2, ?_, ?_, ?_, ?_, a7.of (x.2.2.2.2 gd a7.lt (by omega))⟩
    · rw [if_neg (by omega), if_neg (by omega), if_neg (by omega), if_neg (by omega)]; exact a3
    · rw [if_neg (by omega), if_neg (by omega), if_neg (by omega), if_neg (by omega)]; exact a4
    · rw [if_neg (by omega), if_neg (by omega), if_neg (by omega), if_neg (by omega)]; exact a5
    · rw [if_neg (by omega), if_neg (by omega), if_neg (by omega), if_neg (by omega)]; exact a6
  · rw [List.getElem?_append_right q] at hj
    have e : j = fs.length := by
      rcases Nat.eq_or_lt_of_le q with q | q
      · exact q.symm
      · rw [List.getElem?_eq_none (by simp; omega)] at hj; cases hj
    subst e
    simp at hj
    subst hj
    refine ⟨gc, h1, h2, ?_, ?_, ?_, ?_, hc.of (x.2.2.2.2 gc hc.lt (by omega))⟩
    · rw [if_neg (by omega), if_neg (by omega), if_neg (by omega), if_pos rfl, if_pos (by omega)]
    · rw [if_neg (by omega), if_neg (by omega), if_pos rfl, if_pos (by omega)]
    · rw [if_neg (by omega), if_pos rfl, if_pos (by omega)]
    · rw [if_pos rfl, if_pos (by omega)]
/-- in the midst of reading a program -/
def PS (w W : World) (gp r B : Nat) (ba : Option Addr) (n cap : Nat) (bs : List Int) (c : Nat) (cs : Array Value) : Prop :=
  Bl W w.heap.size #[.int .i64 0, .slice none 0 0, .slice none 0 0] 25 ∧ Bl W gp cs 25 ∧ RD W r B ba n cap bs c ∧ Out r (r + 1) w W ∧ r < w.heap.size ∧ w.heap.size < gp
section
variable {w W W2 : World} {gp r B n cap c c2 : Nat} {ba : Option Addr} {bs : List Int} {cs : Array Value}
theorem PS.step (h : PS w W gp r B ba n cap bs c cs) (o : Out r (r + 1) W W2) (hr : RD W2 r B ba n cap bs c2) : PS w W2 gp r B ba n cap bs c2 cs :=
  ⟨h.1.kept o (by have := h.2.2.2.2; omega), h.2.1.kept o (by have := h.2.2.2.2; omega), hr, h.2.2.2.1.trans o, h.2.2.2.2⟩
theorem PS.set (h : PS w W gp r B ba n cap bs c cs) (j : Nat) (v : Value) : PS w (W.setCell ⟨gp, j, none⟩ v) gp r B ba n cap bs c (cs.setIfInBounds j v) := by
  have o : Out gp (gp + 1) W (W.setCell ⟨gp, j, none⟩ v) := (Out.refl _ _ W).setCell (p := ⟨gp, j, none⟩) (.inl ⟨Nat.le_refl _, Nat.lt_succ_self _⟩) _
  exact ⟨h.1.kept o (by have := h.2.2.2.2; omega), h.2.1.set j v, h.2.2.1.off o (by have := h.2.2.2.2; omega), h.2.2.2.1.setCell (.inr (by have := h.2.2.2.2; show w.heap.size ≤ gp; omega)) _, h.2.2.2.2⟩
theorem PS.quiet (h : PS w W gp r B ba n cap bs c cs) (o : Out 0 0 W W2) : PS w W2 gp r B ba n cap bs c cs :=
  ⟨h.1.kept o (.inr (Nat.zero_le _)), h.2.1.kept o (.inr (Nat.zero_le _)), h.2.2.1.out o, h.2.2.2.1.trans (o.any _ _), h.2.2.2.2⟩
theorem PS.far (h : PS w W gp r B ba n cap bs c cs) {g : Nat} (o : Out g (g + 1) W W2) (hg : gp < g) : PS w W2 gp r B ba n cap bs c cs :=
  ⟨h.1.kept o (by have := h.2.2.2.2; omega), h.2.1.kept o (.inl hg), h.2.2.1.off o (by have := h.2.2.2.2; omega), h.2.2.2.1.past o (by have := h.2.2.2.2; omega), h.2.2.2.2⟩
end
theorem infoPr (v0 v1 v2 : Value) : (Tryd.prog.info? 25).map (·.size) = some (#[v0, v1, v2] : Array Value).size := by kernel_rfl
theorem load_pr {w : World} {g : Nat} {v0 v1 v2 : Value} (hg : Bl w g #[v0, v1, v2] 25) : (loadVar 25 ⟨g, 0, none⟩).run Tryd.prog w = .ok (.agg #[v0, v1, v2]) w :=
  run_loadVar_row w g 25 25 _ (0, 0) _ hg Tryd.underlying25 rfl (infoPr v0 v1 v2)
/-- what reading a program leaves -/
def PrQ (w : World) (r B : Nat) (ba : Option Addr) (n cap : Nat) (bs : List Int) (a : Nat) (e : Ending) (w' : World) : Prop := Out r (r + 1) w w' ∧ ((∃ x ts fs c gt gf, prgR bs a = .inr ((x, ts, fs), c) ∧ RD w' r B ba n cap bs c ∧ w.heap.size ≤ gt ∧ w.heap.size ≤ gf ∧ e = .returned (.agg #[.int .i64 x, .slice (some ⟨gt, 0, none⟩) ts.length ts.length, .slice (some ⟨gf, 0, none⟩) fs.length fs.length]) ∧ TR w' gt gf ts.length ts ∧ FR w' gf w'.heap.size fs.length fs ∧ gt < gf) ∨ ∃ x q, prgR bs a = .inl (x, q) ∧ e = .panicked [stopP x (q : Int)])
theorem PrQ.err {w w' : World} {r B n cap a q : Nat} {ba : Option Addr} {bs : List Int} {x : Int} (o : Out r (r + 1) w w') (h : prgR bs a = .inl (x, q)) : PrQ w r B ba n cap bs a (.panicked [stopP x (q : Int)]) w' := ⟨o, .inr ⟨x, q, h, rfl⟩⟩
theorem PrQ.ok {w w' : World} {r B n cap a c gt gf nt nf : Nat} {ba : Option Addr} {bs : List Int} {x : Int} {ts : List (List Int)} {fs : List (Int × Int × Int × List (Int × Int))} (o : Out r (r + 1) w w') (h : prgR bs a = .inr ((x, ts, fs), c)) (hr : RD w' r B ba n cap bs c) (h1 : w.heap.size ≤ gt) (h2 : w.heap.size ≤ gf) (hnt : ts.length = nt) (hnf : fs.length = nf) (ht : TR w' gt gf nt ts) (hf : FR w' gf w'.heap.size nf fs) (hlt : gt < gf) : PrQ w r B ba n cap bs a (.returned (.agg #[.int .i64 x, .slice (some ⟨gt, 0, none⟩) nt nt, .slice (some ⟨gf, 0, none⟩) nf nf])) w' := by
  subst hnt hnf
  exact ⟨o, .inl ⟨x, ts, fs, c, gt, gf, h, hr, h1, h2, rfl, ht, hf, hlt⟩⟩
end Go.Proofs.YtkghabmgofgclaaDoor
