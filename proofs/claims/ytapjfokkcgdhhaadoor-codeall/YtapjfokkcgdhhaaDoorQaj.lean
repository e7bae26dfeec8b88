import Derived.Test.YtapjfokkcgdhhaaDoorQai
namespace Go.Proofs.YtapjfokkcgdhhaaDoor
open Go.RowKit
set_option linter.unusedVariables false
set_option linter.unusedSimpArgs false

theorem info_bytes : (Tryd.prog.info? 22).map (fun i => (i.zero, i.size, i.bytes)) = some (some (.slice none 0 0), 1, 24) := by kernel_rfl
theorem info_func : (Tryd.prog.info? 40).map (fun i => (i.zero, i.size, i.bytes)) = some (some (.agg #[.int .i64 0, .int .i64 0, .int .i64 0, .slice none 0 0]), 4, 48) := by kernel_rfl
/-- the first k of these lie apart -/
def TAp (cs : Array Value) (k : Nat) : Prop := ∀ (i j : Nat) a b q, i < k → j < k → i ≠ j → cs[i]? = some a → cs[j]? = some b → a.ownBlock = some q → b.ownBlock ≠ some q
/-- a row of m texts, of which the first are these, each in a row of its own behind the row's block, below hi -/
def TR (w : World) (g hi m : Nat) (ts : List (List Int)) : Prop := ∃ cs : Array Value, Bl w g cs 22 ∧ cs.size = m ∧ (∀ (j : Nat) t, ts[j]? = some t → Byt t ∧ ∃ A' C', cs[j]? = some (.slice A' t.length C') ∧ w.ownsRow (g + 1) 5 1 (.slice A' t.length C') t.length (bvs t) ∧ ∀ q, (Value.slice A' t.length C').ownBlock = some q → q < hi) ∧ TAp cs ts.length
def FAp (cs : Array Value) (k : Nat) : Prop := ∀ (i j : Nat) a b q, i < k → j < k → i ≠ j → cs[i * 4 + 3]? = some a → cs[j * 4 + 3]? = some b → a.ownBlock = some q → b.ownBlock ≠ some q
/-- a row of m functions likewise -/
def FR (w : World) (g hi m : Nat) (fs : List (Int × Int × Int × List (Int × Int))) : Prop := ∃ cs : Array Value, Bl w g cs 40 ∧ cs.size = m * 4 ∧ (∀ (j : Nat) f, fs[j]? = some f → ∃ gc, g < gc ∧ gc < hi ∧ cs[j * 4]? = some (.int .i64 f.1) ∧ cs[j * 4 + 1]? = some (.int .i64 f.2.1) ∧ cs[j * 4 + 2]? = some (.int .i64 f.2.2.1) ∧ cs[j * 4 + 3]? = some (.slice (some ⟨gc, 0, none⟩) f.2.2.2.length f.2.2.2.length) ∧ CR w gc f.2.2.2.length f.2.2.2) ∧ FAp cs fs.length
theorem TR.lt {w : World} {g hi m : Nat} {ts : List (List Int)} (h : TR w g hi m ts) : g < w.heap.size := by
  obtain ⟨cs, h1, _⟩ := h; exact h1.lt
theorem FR.lt {w : World} {g hi m : Nat} {fs : List (Int × Int × Int × List (Int × Int))} (h : FR w g hi m fs) : g < w.heap.size := by
  obtain ⟨cs, h1, _⟩ := h; exact h1.lt
theorem TR.fx {w w' : World} {g hi m : Nat} {ts : List (List Int)} (h : TR w g hi m ts) {S : Nat → Prop} (x : Fx S w w') (hS : ∀ k, g ≤ k → k < hi → ¬ S k) (hg : g < hi) : TR w' g hi m ts := by
  obtain ⟨cs, h1, h2, h3, h4⟩ := h
  refine ⟨cs, h1.fx x (hS g (Nat.le_refl _) hg), h2, fun j t hj => ?_, h4⟩
  obtain ⟨hb, A', C', k1, k2, k3⟩ := h3 j t hj
  exact ⟨hb, A', C', k1, own_fx k2 x fun q hq => hS q (by have := (own_ge k2 hq).1; omega) (k3 q hq), k3⟩
theorem FR.fx {w w' : World} {g hi m : Nat} {fs : List (Int × Int × Int × List (Int × Int))} (h : FR w g hi m fs) {S : Nat → Prop} (x : Fx S w w') (hS : ∀ k, g ≤ k → k < hi → ¬ S k) (hg : g < hi) : FR w' g hi m fs := by
  obtain ⟨cs, h1, h2, h3, h4⟩ := h
  refine ⟨cs, h1.fx x (hS g (Nat.le_refl _) hg), h2, fun j f hj => ?_, h4⟩
  obtain ⟨gc, a1, a2, a3, a4, a5, a6, a7⟩ := h3 j f hj
  exact ⟨gc, a1, a2, a3, a4, a5, a6, a7.of (x.2.2.2.2 gc a7.lt (hS gc (by omega) a2))⟩
theorem fx_of {lo hi : Nat} {w w' : World} (o : Out lo hi w w') : Fx (fun k => lo ≤ k ∧ k < hi) w w' := ⟨o.1, o.2.1, o.2.2.1, o.size, fun k h1 h2 => o.block h1 (by omega)⟩
theorem TR.kept {w w' : World} {g hi m lo' hi' : Nat} {ts : List (List Int)} (h : TR w g hi m ts) (o : Out lo' hi' w w') (hS : hi' ≤ g ∨ hi ≤ lo') (hg : g < hi) : TR w' g hi m ts := h.fx (fx_of o) (fun k h1 h2 q => by omega) hg
theorem FR.kept {w w' : World} {g hi m lo' hi' : Nat} {fs : List (Int × Int × Int × List (Int × Int))} (h : FR w g hi m fs) (o : Out lo' hi' w w') (hS : hi' ≤ g ∨ hi ≤ lo') (hg : g < hi) : FR w' g hi m fs := h.fx (fx_of o) (fun k h1 h2 q => by omega) hg
theorem TR.up {w : World} {g hi hi2 m : Nat} {ts : List (List Int)} (h : TR w g hi m ts) (h2 : hi ≤ hi2) : TR w g hi2 m ts := by
  obtain ⟨cs, h1, h3, h4, h5⟩ := h
  refine ⟨cs, h1, h3, fun j t hj => ?_, h5⟩
  obtain ⟨hb, A', C', k1, k2, k3⟩ := h4 j t hj
  exact ⟨hb, A', C', k1, k2, fun q hq => Nat.lt_of_lt_of_le (k3 q hq) h2⟩
theorem FR.up {w : World} {g hi hi2 m : Nat} {fs : List (Int × Int × Int × List (Int × Int))} (h : FR w g hi m fs) (h2 : hi ≤ hi2) : FR w g hi2 m fs := by
  obtain ⟨cs, h1, h3, h4, h5⟩ := h
  refine ⟨cs, h1, h3, fun j t hj => ?_, h5⟩
  obtain ⟨gc, a1, a2, a3⟩ := h4 j t hj
  exact ⟨gc, a1, Nat.lt_of_lt_of_le a2 h2, a3⟩
theorem TR.new (w : World) (cur : Array Value) (m : Nat) (h : cur.size = m * 1) : TR (w.alloc (.cells cur 22)) w.heap.size (w.heap.size + 1) m [] := ⟨cur, Bl.new w cur _, by omega, (fun j x hj => by simp at hj), fun i j a b q hi => absurd hi (Nat.not_lt_zero _)⟩
theorem FR.new (w : World) (cur : Array Value) (m : Nat) (h : cur.size = m * 4) : FR (w.alloc (.cells cur 40)) w.heap.size (w.heap.size + 1) m [] := ⟨cur, Bl.new w cur _, h, (fun j x hj => by simp at hj), fun i j a b q hi => absurd hi (Nat.not_lt_zero _)⟩
theorem TR.cells {w : World} {g hi m : Nat} {ts : List (List Int)} (h : TR w g hi m ts) {i : Nat} (hi : i < m) : (∃ x, w.cell? ⟨g, i, none⟩ = some x) ∧ w.frozen? ⟨g, i, none⟩ = false := by
  obtain ⟨cs, h1, h2, h3, h4⟩ := h
  exact ⟨⟨_, h1.cell (Array.getElem?_eq_getElem (by omega))⟩, h1.frozen _⟩
theorem TR.set {w : World} {g h0 hi m : Nat} {ts : List (List Int)} (h : TR w g h0 m ts) (hi2 : ts.length < m) (hgh : g < hi) (hle : h0 ≤ hi) {t : List Int} {A' : Option Addr} {C' : Nat} (hB : Byt t) (ho : w.ownsRow (g + 1) 5 1 (.slice A' t.length C') t.length (bvs t)) (hq : ∀ q, (Value.slice A' t.length C').ownBlock = some q → h0 ≤ q ∧ q < hi) : TR (w.setCell ⟨g, ts.length, none⟩ (.slice A' t.length C')) g hi m (ts ++ [t]) := by
  obtain ⟨cs, h1, h2, h3, h4⟩ := h
  have x : Fx (fun k => k = g) w (w.setCell ⟨g, ts.length, none⟩ (.slice A' t.length C')) := (Fx.refl (fun k => k = g) w).set (p := ⟨g, ts.length, none⟩) (.inl rfl) _
  refine ⟨_, h1.set _ _, by simpa using h2, fun j y hj => ?_, fun i j a b q z1 z2 z3 z4 z5 z6 z7 => ?_⟩
  rotate_left
  · simp only [List.length_append, List.length_cons, List.length_nil] at z1 z2
    have low : ∀ (i : Nat) a, i < ts.length → cs[i]? = some a → a.ownBlock = some q → q < h0 := by
      intro i a hi ha hq
      obtain ⟨-, A2, C2, k1, -, k3⟩ := h3 i _ (List.getElem?_eq_getElem hi)
      rw [ha] at k1
      cases k1
      exact k3 q hq
    rw [Array.getElem?_setIfInBounds] at z4 z5
    by_cases e1 : ts.length = i
    · rw [if_pos e1, if_pos (by omega)] at z4
      rw [if_neg (by omega)] at z5
      cases z4
      have := low j b (by omega) z5 z7
      have := (hq q z6).1
      omega
    · rw [if_neg e1] at z4
      by_cases e2 : ts.length = j
      · rw [if_pos e2, if_pos (by omega)] at z5
        cases z5
        have := low i a (by omega) z4 z6
        have := (hq q z7).1
        omega
      · rw [if_neg e2] at z5
        exact h4 i j a b q (by omega) (by omega) z3 z4 z5 z6 z7
  rcases Nat.lt_or_ge j ts.length with q | q
  · rw [List.getElem?_append_left q] at hj
    obtain ⟨hb, B', D', k1, k2, k3⟩ := h3 j y hj
    refine ⟨hb, B', D', ?_, own_fx k2 x fun u hu e => ?_, fun q hq => Nat.lt_of_lt_of_le (k3 q hq) hle⟩
    · rw [Array.getElem?_setIfInBounds_ne (by omega)]; exact k1
    · have := (own_ge k2 hu).1; omega
  · rw [List.getElem?_append_right q] at hj
    have e : j = ts.length := by
      rcases Nat.eq_or_lt_of_le q with q | q
      · exact q.symm
      · rw [List.getElem?_eq_none (by simp; omega)] at hj; cases hj
    subst e
    simp at hj
    subst hj
    refine ⟨hB, A', C', ?_, own_fx ho x fun u hu e => ?_, fun q h => (hq q h).2⟩
    · rw [Array.getElem?_setIfInBounds]; rw [if_pos rfl, if_pos (by omega)]
    · have := (own_ge ho hu).1; omega
theorem FR.cells {w : World} {g hi m : Nat} {fs : List (Int × Int × Int × List (Int × Int))} (h : FR w g hi m fs) {i : Nat} (hi : i < m) : ∃ cs, Bl w g cs 40 ∧ cs.size = m * 4 := by
  obtain ⟨cs, h1, h2, h3, h4⟩ := h
  exact ⟨cs, h1, h2⟩
theorem FR.set {w : World} {g h0 hi m gc : Nat} {fs : List (Int × Int × Int × List (Int × Int))} (h : FR w g h0 m fs) (hi2 : fs.length < m) (hgh : g < hi) (hle : h0 ≤ hi) (f : Int × Int × Int × List (Int × Int)) (h1 : g < gc) (h2 : h0 ≤ gc ∧ gc < hi) (hc : CR w gc f.2.2.2.length f.2.2.2) :
    FR ((((w.setCell ⟨g, fs.length * 4, none⟩ (.int .i64 f.1)).setCell ⟨g, fs.length * 4 + 1, none⟩ (.int .i64 f.2.1)).setCell ⟨g, fs.length * 4 + 2, none⟩ (.int .i64 f.2.2.1)).setCell ⟨g, fs.length * 4 + 3, none⟩ (.slice (some ⟨gc, 0, none⟩) f.2.2.2.length f.2.2.2.length)) g hi m (fs ++ [f]) := by
  obtain ⟨cs, k1, k2, k3, k4⟩ := h
  have x : Fx (fun k => k = g) w ((((w.setCell ⟨g, fs.length * 4, none⟩ (.int .i64 f.1)).setCell ⟨g, fs.length * 4 + 1, none⟩ (.int .i64 f.2.1)).setCell ⟨g, fs.length * 4 + 2, none⟩ (.int .i64 f.2.2.1)).setCell ⟨g, fs.length * 4 + 3, none⟩ (.slice (some ⟨gc, 0, none⟩) f.2.2.2.length f.2.2.2.length)) := ((((Fx.refl (fun k => k = g) w).set (p := ⟨g, _, none⟩) (.inl rfl) _).set (p := ⟨g, _, none⟩) (.inl rfl) _).set (p := ⟨g, _, none⟩) (.inl rfl) _).set (p := ⟨g, _, none⟩) (.inl rfl) _
  refine ⟨_, (((k1.set _ _).set _ _).set _ _).set _ _, by simpa using k2, fun j y hj => ?_, fun i j a b q z1 z2 z3 z4 z5 z6 z7 => ?_⟩
  rotate_left
  · simp only [List.length_append, List.length_cons, List.length_nil] at z1 z2
    have low : ∀ (i : Nat) a, i < fs.length → cs[i * 4 + 3]? = some a → a.ownBlock = some q → q < h0 := by
      intro i a hi ha hq
      obtain ⟨gd, a1, a2, a3, a4, a5, a6, a7⟩ := k3 i _ (List.getElem?_eq_getElem hi)
      rw [ha] at a6
      cases a6
      cases hq
      exact a2
    simp only [Array.getElem?_setIfInBounds, Array.size_setIfInBounds] at z4 z5
    rw [if_neg (by omega : ¬ fs.length * 4 + 2 = i * 4 + 3), if_neg (by omega : ¬ fs.length * 4 + 1 = i * 4 + 3), if_neg (by omega : ¬ fs.length * 4 = i * 4 + 3)] at z4
    rw [if_neg (by omega : ¬ fs.length * 4 + 2 = j * 4 + 3), if_neg (by omega : ¬ fs.length * 4 + 1 = j * 4 + 3), if_neg (by omega : ¬ fs.length * 4 = j * 4 + 3)] at z5
    by_cases e1 : fs.length = i
    · rw [if_pos (by omega), if_pos (by omega)] at z4
      rw [if_neg (by omega)] at z5
      cases z4
      have := low j b (by omega) z5 z7
      have e : gc = q := Option.some.inj z6
      omega
    · rw [if_neg (by omega)] at z4
      by_cases e2 : fs.length = j
      · rw [if_pos (by omega), if_pos (by omega)] at z5
        cases z5
        have := low i a (by omega) z4 z6
        have e : gc = q := Option.some.inj z7
        omega
      · rw [if_neg (by omega)] at z5
        exact k4 i j a b q (by omega) (by omega) z3 z4 z5 z6 z7
  simp only [Array.getElem?_setIfInBounds, Array.size_setIfInBounds]
  rcases Nat.lt_or_ge j fs.length with q | q
  · rw [List.getElem?_append_left q] at hj
    obtain ⟨gd, a1, a2, a3, a4, a5, a6, a7⟩ := k3 j y hj
    refine ⟨gd, a1, Nat.lt_of_lt_of_le a2 hle, ?_, ?_, ?_, ?_, a7.of (x.2.2.2.2 gd a7.lt (by omega))⟩
    · rw [if_neg (by omega), if_neg (by omega), if_neg (by omega), if_neg (by omega)]; exact a3
    · rw [if_neg (by omega), if_neg (by omega), if_neg (by omega), if_neg (by omega)]; exact a4
    · rw [if_neg (by omega), if_neg (by omega), if_neg (by omega), if_neg (by omega)]; exact a5
    · rw [if_neg (by omega), if_neg (by omega), if_neg (by omega), if_neg (by omega)]; exact a6
  · rw [List.getElem?_append_right q] at hj
    have e : j = fs.length := by
      rcases Nat.eq_or_lt_of_le q with q | q
      · exact q.symm
      · rw [List.getElem?_eq_none (by simp; omega)] at hj; cases hj
    subst e
    simp at hj
    subst hj
    refine ⟨gc, h1, h2.2, ?_, ?_, ?_, ?_, hc.of (x.2.2.2.2 gc hc.lt (by omega))⟩
    · rw [if_neg (by omega), if_neg (by omega), if_neg (by omega), if_pos rfl, if_pos (by omega)]
    · rw [if_neg (by omega), if_neg (by omega), if_pos rfl, if_pos (by omega)]
    · rw [if_neg (by omega), if_pos rfl, if_pos (by omega)]
    · rw [if_pos rfl, if_pos (by omega)]
/-- in the midst of reading a program -/
def PS (w W : World) (gp r B : Nat) (ba : Option Addr) (n cap : Nat) (bs : List Int) (c : Nat) (cs : Array Value) : Prop :=
  Bl W w.heap.size #[.int .i64 0, .slice none 0 0, .slice none 0 0] 35 ∧ Bl W gp cs 35 ∧ RD W r B ba n cap bs c ∧ Out r (r + 1) w W ∧ r < w.heap.size ∧ w.heap.size < gp
section
variable {w W W2 : World} {gp r B n cap c c2 : Nat} {ba : Option Addr} {bs : List Int} {cs : Array Value}
theorem PS.step (h : PS w W gp r B ba n cap bs c cs) (o : Out r (r + 1) W W2) (hr : RD W2 r B ba n cap bs c2) : PS w W2 gp r B ba n cap bs c2 cs :=
  ⟨h.1.kept o (by have := h.2.2.2.2; omega), h.2.1.kept o (by have := h.2.2.2.2; omega), hr, h.2.2.2.1.trans o, h.2.2.2.2⟩
theorem PS.set (h : PS w W gp r B ba n cap bs c cs) (j : Nat) (v : Value) : PS w (W.setCell ⟨gp, j, none⟩ v) gp r B ba n cap bs c (cs.setIfInBounds j v) := by
  have o : Out gp (gp + 1) W (W.setCell ⟨gp, j, none⟩ v) := (Out.refl _ _ W).setCell (p := ⟨gp, j, none⟩) (.inl ⟨Nat.le_refl _, Nat.lt_succ_self _⟩) _
  exact ⟨h.1.kept o (by have := h.2.2.2.2; omega), h.2.1.set j v, h.2.2.1.off o (by have := h.2.2.2.2; omega), h.2.2.2.1.setCell (.inr (by have := h.2.2.2.2; show w.heap.size ≤ gp; omega)) _, h.2.2.2.2⟩
theorem PS.quiet (h : PS w W gp r B ba n cap bs c cs) (o : Out 0 0 W W2) : PS w W2 gp r B ba n cap bs c cs :=
  ⟨h.1.kept o (.inr (Nat.zero_le _)), h.2.1.kept o (.inr (Nat.zero_le _)), h.2.2.1.out o, h.2.2.2.1.trans (o.any _ _), h.2.2.2.2⟩
theorem PS.far (h : PS w W gp r B ba n cap bs c cs) {g : Nat} (o : Out g (g + 1) W W2) (hg : gp < g) : PS w W2 gp r B ba n cap bs c cs :=
  ⟨h.1.kept o (by have := h.2.2.2.2; omega), h.2.1.kept o (.inl hg), h.2.2.1.off o (by have := h.2.2.2.2; omega), h.2.2.2.1.past o (by have := h.2.2.2.2; omega), h.2.2.2.2⟩
end
theorem infoPr (v0 v1 v2 : Value) : (Tryd.prog.info? 35).map (·.size) = some (#[v0, v1, v2] : Array Value).size := by kernel_rfl
theorem load_pr {w : World} {g : Nat} {v0 v1 v2 : Value} (hg : Bl w g #[v0, v1, v2] 35) : (loadVar 35 ⟨g, 0, none⟩).run Tryd.prog w = .ok (.agg #[v0, v1, v2]) w :=
  run_loadVar_row w g 35 35 _ (0, 0) _ hg Tryd.underlying35 rfl (infoPr v0 v1 v2)
/-- what reading a program leaves -/
def PrQ (w : World) (r B : Nat) (ba : Option Addr) (n cap : Nat) (bs : List Int) (a : Nat) (e : Ending) (w' : World) : Prop := Out r (r + 1) w w' ∧ ((∃ x ts fs c gt gf, prgR bs a = .inr ((x, ts, fs), c) ∧ RD w' r B ba n cap bs c ∧ w.heap.size ≤ gt ∧ w.heap.size ≤ gf ∧ e = .returned (.agg #[.int .i64 x, .slice (some ⟨gt, 0, none⟩) ts.length ts.length, .slice (some ⟨gf, 0, none⟩) fs.length fs.length]) ∧ TR w' gt gf ts.length ts ∧ FR w' gf w'.heap.size fs.length fs ∧ gt < gf) ∨ ∃ x q, prgR bs a = .inl (x, q) ∧ e = .panicked [stopP x (q : Int)])
theorem PrQ.err {w w' : World} {r B n cap a q : Nat} {ba : Option Addr} {bs : List Int} {x : Int} (o : Out r (r + 1) w w') (h : prgR bs a = .inl (x, q)) : PrQ w r B ba n cap bs a (.panicked [stopP x (q : Int)]) w' := ⟨o, .inr ⟨x, q, h, rfl⟩⟩
theorem PrQ.ok {w w' : World} {r B n cap a c gt gf nt nf : Nat} {ba : Option Addr} {bs : List Int} {x : Int} {ts : List (List Int)} {fs : List (Int × Int × Int × List (Int × Int))} (o : Out r (r + 1) w w') (h : prgR bs a = .inr ((x, ts, fs), c)) (hr : RD w' r B ba n cap bs c) (h1 : w.heap.size ≤ gt) (h2 : w.heap.size ≤ gf) (hnt : ts.length = nt) (hnf : fs.length = nf) (ht : TR w' gt gf nt ts) (hf : FR w' gf w'.heap.size nf fs) (hlt : gt < gf) : PrQ w r B ba n cap bs a (.returned (.agg #[.int .i64 x, .slice (some ⟨gt, 0, none⟩) nt nt, .slice (some ⟨gf, 0, none⟩) nf nf])) w' := by
  subst hnt hnf
  exact ⟨o, .inl ⟨x, ts, fs, c, gt, gf, h, hr, h1, h2, rfl, ht, hf, hlt⟩⟩
end Go.Proofs.YtapjfokkcgdhhaaDoor
namespace Go.Proofs.YtapjfokkcgdhhaaDoor
open Go.RowKit
set_option linter.unusedVariables false
set_option linter.unusedSimpArgs false

theorem txt_ok {bs : List Int} {a v c : Nat} (h : numR 0 4096 bs a = .inr (v, c)) (hl : c + v ≤ bs.length) : txtR bs a = .inr ((bs.drop c).take v, c + v) := by
  unfold txtR
  rw [bnd_ok h, take_ok hl]
theorem txt_end {bs : List Int} {a v c n : Nat} (h : numR 0 4096 bs a = .inr (v, c)) (hn : bs.length = n) (hc : c ≤ n) (hl : n < c + v) : txtR bs a = .inl (61, n) := by
  unfold txtR
  rw [bnd_ok h, take_err (by omega) (by omega), hn]
set_option maxRecDepth 100000 in
set_option maxHeartbeats 4000000 in
theorem rprog_any {w : World} {r B n cap : Nat} {ba : Option Addr} {bs : List Int} {a : Nat} (h : RD w r B ba n cap bs a) :
    Calls Tryd.prog 42 #[.pointer (some ⟨r, 0, none⟩)] w fun e w' => PrQ w r B ba n cap bs a e w' := by
  have HR0 := hid_mk (h.alloc (.cells #[.int .i64 0, .slice none 0 0, .slice none 0 0] 35))
  have HB0 := hid_mk (Bl.new w #[.int .i64 0, .slice none 0 0, .slice none 0 0] 35)
  have HO0 := hid_mk ((Out.refl r (r + 1) w).alloc (.cells #[.int .i64 0, .slice none 0 0, .slice none 0 0] 35))
  have hrl : Hid (r < w.heap.size) := h.lt
  have hlen : Hid (bs.length = n) := h.2.2.1
  clear h
  go_enter Tryd.func42, Tryd.ntmps42
  go_wp2_with fail
  refine (rmagic_any HR0.out).mono ?_
  rintro e V1 ⟨ho, ⟨c0, hn, rfl, hrd⟩ | ⟨x, q, hn, rfl⟩⟩
  · have h0 := hid_mk hn
    have HB1 := hid_mk (HB0.out.kept ho (by have := hrl.out; omega))
    have HO1 := hid_mk (HO0.out.trans ho)
    have HR1 := hid_mk hrd
    clear hn ho hrd
    obtain ⟨gp, hgp⟩ : ∃ g, V1.heap.size = g := ⟨_, rfl⟩
    have HS0 : Hid (PS w (V1.alloc (.cells #[.int .i64 0, .slice none 0 0, .slice none 0 0] 35)) gp r B ba n cap bs c0 #[.int .i64 0, .slice none 0 0, .slice none 0 0]) := hid_mk ⟨HB1.out.alloc _, hgp ▸ Bl.new V1 _ _, HR1.out.alloc _, HO1.out.alloc _, hrl.out, by have := HB1.out.lt; omega⟩
    go_wp2_with fail
    clear hgp
    refine (rnum_any HS0.out.2.2.1 0 64).mono ?_
    rintro e V2 ⟨ho, ⟨x1, c1, hn, rfl, hrd⟩ | ⟨x, q, hn, rfl⟩⟩
    · have h1 := hid_mk hn
      have HT1 := hid_mk (HS0.out.step ho hrd)
      clear hn ho hrd
      have s0 := HT1.out.2.1.cell (i := 0) rfl
      have s1 := HT1.out.2.1.frozen 0
      have HS1 := hid_mk (HT1.out.set 0 (.int .i64 (x1 : Int)))
      go_wp2_with fail
      clear s0 s1
      refine (rnum_any HS1.out.2.2.1 0 64).mono ?_
      rintro e V4 ⟨ho, ⟨m, c2, hn, rfl, hrd⟩ | ⟨x, q, hn, rfl⟩⟩
      · have h2 := hid_mk hn
        have HT2 := hid_mk (HS1.out.step ho hrd)
        clear hn ho hrd
        obtain ⟨cur, hcs, hmk⟩ := make_any Tryd.underlying25 info_bytes (by decide) m (Nat.le_trans (num_in h2.out).2 (by decide))
        obtain ⟨gt, hgt⟩ : ∃ g, V4.heap.size = g := ⟨_, rfl⟩
        have HQ := hid_mk (TR.new V4 cur m hcs)
        have hV : Hid (gp < V4.heap.size) := hid_mk HT2.out.2.1.lt
        have HS2 := hid_mk ((HT2.out.quiet ((Out.refl 0 0 V4).alloc (.cells cur 22))).set 1 (.slice (some ⟨V4.heap.size, 0, none⟩) m m))
        have s2 := ((HT2.out.quiet ((Out.refl 0 0 V4).alloc (.cells cur 22))).2.1).cell (i := 1) rfl
        have s3 := ((HT2.out.quiet ((Out.refl 0 0 V4).alloc (.cells cur 22))).2.1).frozen 1
        have hm4 : (m : Int) ≤ 64 := by have := (num_in h2.out).2; omega
        have s4 := HS2.out.2.1.cell (i := 1) rfl
        have HQ2 : Hid (TR ((V4.alloc (.cells cur 22)).setCell ⟨gp, 1, none⟩ (.slice (some ⟨V4.heap.size, 0, none⟩) m m)) V4.heap.size (V4.heap.size + 1) m []) := hid_mk (HQ.out.kept (lo' := gp) (hi' := gp + 1) ((Out.refl _ _ _).setCell (p := ⟨gp, 1, none⟩) (.inl ⟨Nat.le_refl _, Nat.lt_succ_self _⟩) _) (.inl hV.out) (Nat.lt_succ_self _))
        go_wp2_with fail
        clear s2 s3 s4 hmk hcs HQ
        rw [hgt] at HS2 HQ2 hV
        have hgtl : Hid (gt < ((V4.alloc (.cells cur 22)).setCell ⟨gp, 1, none⟩ (.slice (some ⟨gt, 0, none⟩) m m)).heap.size) := hid_mk (by rw [size_set, size_alloc, hgt]; exact Nat.lt_succ_self _)
        clear hgt HT2 HT1
        go_loopw [18] (fun x wr => ∃ (i : Nat) (ts : List (List Int)) (c : Nat), x = .int .i64 i ∧ i ≤ m ∧ ts.length = i ∧ repR i txtR bs c2 = .inr (ts, c) ∧ PS w wr gp r B ba n cap bs c #[.int .i64 (x1 : Int), .slice (some ⟨gt, 0, none⟩) m m, .slice none 0 0] ∧ TR wr gt wr.heap.size m ts) (fun x _ => m - (intOf x).toNat)
        case atStart => exact ⟨0, [], c2, rfl, Nat.zero_le _, rfl, rfl, HS2.out, HQ2.out.up hgtl.out⟩
        case round =>
          obtain ⟨i, ts, c, rfl, him, hvl, hrep, hfs, hcr⟩ := hrel
          have HP := hid_mk hrep
          have HF := hid_mk hfs
          have HC := hid_mk hcr
          have HL := hid_mk hvl
          have t1 := hfs.2.1.cell (i := 1) rfl
          clear hrep hfs hcr hvl
          by_cases hgo : i < m
          · have g1 : (i : Int) < (m : Int) := by omega
            go_wp2
            refine wp_region_held_drew (S := fun w' => w'.cell? ⟨gp, 1, none⟩ = some (.slice (some ⟨gt, 0, none⟩) m m)) (by kernel_rfl) t1 (fun hHeld => ?_)
            refine tk 0 ?_
            refine tk 1 ?_
            refine tk 2 ?_
            refine tk 3 ?_
            refine tk 4 ?_
            refine wpAnyH_ready (rs := [5]) (by kernel_rfl) (by simp) ?_
            refine AllReadyH.cons rfl (fun KK hK => ?_) AllReadyH.nil
            simp only [xa, xb, xc]
            go_simp
            have HFZ := hid_mk (HF.out.quiet ((Out.refl 0 0 wr).drew))
            have hgw : Hid (gt < wr.heap.size) := hid_mk HC.out.lt
            have HCZ := hid_mk (HC.out.kept ((Out.refl 0 0 wr).drew) (.inl (Nat.zero_le _)) hgw.out)
            refine (rnum_any HFZ.out.2.2.1 0 4096).mono ?_
            rintro e w3 ⟨ho, ⟨v, c5, hn, rfl, hrd⟩ | ⟨x, q, hn, rfl⟩⟩
            · have HN := hid_mk hn
              have HF3 := hid_mk (HFZ.out.step ho hrd)
              have HC3 := hid_mk (HCZ.out.kept ho (.inl (by have := HF.out.2.2.2.2; have := hV.out; omega)) hgw.out)
              have hs3 : Hid (wr.heap.size ≤ w3.heap.size) := hid_mk ho.size
              clear hn ho hrd
              refine hK.out _ _ (HF3.out.2.1.cell (i := 1) rfl) (fun _ => ?_)
              refine wpAnyH_ready (rs := [6]) (by kernel_rfl) (by simp) ?_
              refine AllReadyH.cons rfl (fun KK hK => ?_) AllReadyH.nil
              simp only [xa, xb, xc]
              go_simp
              by_cases hj : c5 + v ≤ n
              · refine (take_go HF3.out.2.2.1 v hj).mono ?_
                rintro e w4 ⟨A', C', rfl, hAC, hin, hrd, ho⟩
                have HTx := hid_mk (txt_ok HN.out (by rw [hlen.out]; exact hj))
                obtain ⟨t, ht⟩ : ∃ t, (bs.drop c5).take v = t := ⟨_, rfl⟩
                have htl : Hid (t.length = v) := hid_mk (by rw [← ht, List.length_take, List.length_drop, hlen.out]; omega)
                rw [ht] at HTx hin
                have HI4 := hid_mk hin
                have HF4 := hid_mk (HF3.out.step ho hrd)
                have HC4 := hid_mk (HC3.out.kept ho (.inl (by have := HF.out.2.2.2.2; have := hV.out; omega)) hgw.out)
                have hs4 : Hid (wr.heap.size ≤ w4.heap.size) := hid_mk (Nat.le_trans hs3.out ho.size)
                have hv4 : Hid (v ≤ 4096) := hid_mk (num_in HN.out).2
                have hAn : Hid (A' = none → v = 0) := hid_mk fun e => by
                  rcases hin.2 with q | ⟨g, off, q, _⟩
                  · rw [← htl.out, q]; rfl
                  · rw [e] at q; cases q
                clear ht hin hrd ho hAC
                refine hK.out _ _ (HF4.out.2.1.cell (i := 1) rfl) (fun _ => ?_)
                refine wpAnyH_ready (rs := [7]) (by kernel_rfl) (by simp) ?_
                refine AllReadyH.cons rfl (fun KK hK => ?_) AllReadyH.nil
                simp only [xa, xb, xc]
                go_simp
                refine (clone_any HI4.out htl.out (by have := hv4.out; omega) hAn.out).mono ?_
                rintro e w5 ⟨A5, C5, rfl, hown, ho⟩
                have HF5 := hid_mk (HF4.out.quiet ho)
                have HC5 := hid_mk (HC4.out.kept ho (.inl (Nat.zero_le _)) hgw.out)
                have hs5 : Hid (wr.heap.size ≤ w5.heap.size) := hid_mk (Nat.le_trans hs4.out ho.size)
                have HN5 : Hid (∀ q, (Value.slice A5 v C5).ownBlock = some q → wr.heap.size ≤ q ∧ q < w5.heap.size) := hid_mk fun q hq => ⟨Nat.le_trans hs4.out (own_ge hown hq).1, (own_ge hown hq).2⟩
                have HW5 := hid_mk (Go.Joins.ownsRow_le (base' := gt + 1) hown (by have := hs4.out; have := hgw.out; omega))
                clear hown ho
                refine hK.out _ _ (HF5.out.2.1.cell (i := 1) rfl) (fun _ => ?_)
                refine tk 8 ?_
                refine wpAnyH_ready (rs := [9]) (by kernel_rfl) (by simp) ?_
                refine AllReadyH.cons rfl (fun KK hK => ?_) AllReadyH.nil
                simp only [xa, xb, xc]
                obtain ⟨⟨o0, y0⟩, z0⟩ := HC5.out.cells hgo
                go_simp
                have o5 : Out gt (gt + 1) w5 (w5.setCell ⟨gt, i, none⟩ (.slice A5 v C5)) := (Out.refl gt (gt + 1) w5).setCell (p := ⟨gt, i, none⟩) (.inl ⟨Nat.le_refl _, Nat.lt_succ_self _⟩) _
                have HF6 := hid_mk (HF5.out.far o5 hV.out)
                have HC6 := hid_mk (HC5.out.set (hi := w5.heap.size) (by rw [HL.out]; exact hgo) HC5.out.lt hs5.out (t := t) (A' := A5) (C' := C5) HI4.out.1 (by rw [htl.out]; exact HW5.out) (by rw [htl.out]; exact HN5.out))
                rw [HL.out, htl.out] at HC6
                clear y0 z0 o5
                refine hK.out _ _ (HF6.out.2.1.cell (i := 1) rfl) (fun _ => ?_)
                refine wpAnyH_done (by kernel_rfl) ?_ _
                go_wp2
                go_roundw
                case rel => exact ⟨i + 1, ts ++ [t], c5 + v, by go_num, by omega, by rw [List.length_append, HL.out]; rfl, rep_up HP.out HTx.out, HF6.out, by rw [size_set]; exact HC6.out⟩
                case measure => simp [intOf]; omega
              · refine (take_end HF3.out.2.2.1 v (by omega)).mono ?_
                rintro e w4 ⟨rfl, ho⟩
                exact ⟨rfl, PrQ.err (HF3.out.2.2.2.1.trans (ho.any _ _)) (by unfold prgR; rw [bnd_ok h0.out, bnd_ok h1.out, bnd_ok h2.out, bnd_err (rep_err HP.out (txt_end HN.out hlen.out HF3.out.2.2.1.2.2.2.2.1 (by omega)) hgo)])⟩
            · exact ⟨rfl, PrQ.err (HFZ.out.2.2.2.1.trans ho) (by unfold prgR; rw [bnd_ok h0.out, bnd_ok h1.out, bnd_ok h2.out, bnd_err (rep_err HP.out (show txtR bs c = _ by unfold txtR; exact bnd_err hn) hgo)])⟩
          · have hiE : i = m := by omega
            subst hiE
            have g1 : ¬ ((i : Int) < (i : Int)) := by omega
            go_wp2_with fail
            refine (rnum_any HF.out.2.2.1 1 64).mono ?_
            rintro e V6 ⟨ho, ⟨mf, c6, hn, rfl, hrd⟩ | ⟨x, q, hn, rfl⟩⟩
            · have h3 := hid_mk hn
              have hgw : Hid (gt < wr.heap.size) := hid_mk HC.out.lt
              have HT6 := hid_mk (HF.out.step ho hrd)
              have HC6 := hid_mk ((HC.out.kept ho (.inl (by have := HF.out.2.2.2.2; have := hV.out; omega)) hgw.out).up ho.size)
              have hs6 : Hid (wr.heap.size ≤ V6.heap.size) := hid_mk ho.size
              clear hn ho hrd
              obtain ⟨cuf, hcs, hmk⟩ := make_any Tryd.underlying33 info_func (by decide) mf (Nat.le_trans (num_in h3.out).2 (by decide))
              obtain ⟨gf, hgf⟩ : ∃ g, V6.heap.size = g := ⟨_, rfl⟩
              have HQ := hid_mk (FR.new V6 cuf mf hcs)
              have hVf : Hid (gp < V6.heap.size) := hid_mk HT6.out.2.1.lt
              have HS6 := hid_mk ((HT6.out.quiet ((Out.refl 0 0 V6).alloc (.cells cuf 40))).set 2 (.slice (some ⟨V6.heap.size, 0, none⟩) mf mf))
              have s2 := ((HT6.out.quiet ((Out.refl 0 0 V6).alloc (.cells cuf 40))).2.1).cell (i := 2) rfl
              have s3 := ((HT6.out.quiet ((Out.refl 0 0 V6).alloc (.cells cuf 40))).2.1).frozen 2
              have hm6 : (mf : Int) ≤ 64 := by have := (num_in h3.out).2; omega
              have s4 := HS6.out.2.1.cell (i := 2) rfl
              have HQ6 : Hid (FR ((V6.alloc (.cells cuf 40)).setCell ⟨gp, 2, none⟩ (.slice (some ⟨V6.heap.size, 0, none⟩) mf mf)) V6.heap.size (V6.heap.size + 1) mf []) := hid_mk (HQ.out.kept (lo' := gp) (hi' := gp + 1) ((Out.refl _ _ _).setCell (p := ⟨gp, 2, none⟩) (.inl ⟨Nat.le_refl _, Nat.lt_succ_self _⟩) _) (.inl hVf.out) (Nat.lt_succ_self _))
              have HTT : Hid (TR ((V6.alloc (.cells cuf 40)).setCell ⟨gp, 2, none⟩ (.slice (some ⟨V6.heap.size, 0, none⟩) mf mf)) gt V6.heap.size i ts) := hid_mk ((HC6.out.kept ((Out.refl 0 0 V6).alloc _) (.inl (Nat.zero_le _)) (Nat.lt_of_lt_of_le hgw.out hs6.out)).kept (lo' := gp) (hi' := gp + 1) ((Out.refl _ _ _).setCell (p := ⟨gp, 2, none⟩) (.inl ⟨Nat.le_refl _, Nat.lt_succ_self _⟩) _) (.inl hV.out) (Nat.lt_of_lt_of_le hgw.out hs6.out))
              go_wp2_with fail
              clear s2 s3 s4 hmk hcs HQ t1
              rw [hgf] at HS6 HQ6 hVf HTT
              have hgfl : Hid (gf < ((V6.alloc (.cells cuf 40)).setCell ⟨gp, 2, none⟩ (.slice (some ⟨gf, 0, none⟩) mf mf)).heap.size) := hid_mk (by rw [size_set, size_alloc, hgf]; exact Nat.lt_succ_self _)
              have hgtf : Hid (gt < gf) := hid_mk (by have := hgw.out; have := hs6.out; omega)
              clear hgf HT6 HC6
              go_loopw [38] (fun x wr => ∃ (j : Nat) (fs : List (Int × Int × Int × List (Int × Int))) (c : Nat), x = .int .i64 j ∧ j ≤ mf ∧ fs.length = j ∧ repR j funR bs c6 = .inr (fs, c) ∧ PS w wr gp r B ba n cap bs c #[.int .i64 (x1 : Int), .slice (some ⟨gt, 0, none⟩) i i, .slice (some ⟨gf, 0, none⟩) mf mf] ∧ TR wr gt gf i ts ∧ FR wr gf wr.heap.size mf fs) (fun x _ => mf - (intOf x).toNat)
              case atStart => exact ⟨0, [], c6, rfl, Nat.zero_le _, rfl, rfl, HS6.out, HTT.out, HQ6.out.up hgfl.out⟩
              case round =>
                obtain ⟨j, fs, cj, rfl, hjm, hvl, hrep, hfs, htr, hcr⟩ := hrel
                have HPj := hid_mk hrep
                have HFj := hid_mk hfs
                have HTj := hid_mk htr
                have HCj := hid_mk hcr
                have HLj := hid_mk hvl
                have t2 := hfs.2.1.cell (i := 2) rfl
                clear hrep hfs hcr hvl htr
                by_cases hgo2 : j < mf
                · have g2 : (j : Int) < (mf : Int) := by omega
                  go_wp2
                  refine wp_region_held_drew (S := fun w' => w'.cell? ⟨gp, 2, none⟩ = some (.slice (some ⟨gf, 0, none⟩) mf mf)) (by kernel_rfl) t2 (fun hHeld => ?_)
                  refine tk 0 ?_
                  refine tk 1 ?_
                  refine tk 2 ?_
                  refine tk 3 ?_
                  refine wpAnyH_ready (rs := [4]) (by kernel_rfl) (by simp) ?_
                  refine AllReadyH.cons rfl (fun KK hK => ?_) AllReadyH.nil
                  simp only [xa, xb, xc]
                  go_simp
                  have HFZ := hid_mk (HFj.out.quiet ((Out.refl 0 0 wr).drew))
                  have hgz : Hid (gf < wr.heap.size) := hid_mk HCj.out.lt
                  have HCZ := hid_mk (HCj.out.kept ((Out.refl 0 0 wr).drew) (.inl (Nat.zero_le _)) hgz.out)
                  have HTZ := hid_mk (HTj.out.kept ((Out.refl 0 0 wr).drew) (.inl (Nat.zero_le _)) hgtf.out)
                  refine (rfun_any HFZ.out.2.2.1).mono ?_
                  rintro e w3 ⟨ho, ⟨⟨f1, f2, f3, fl⟩, c7, hn, hrd, gc, hgc, rfl, hcc⟩ | ⟨x, q, hn, rfl⟩⟩
                  · have HN := hid_mk hn
                    have HF3 := hid_mk (HFZ.out.step ho hrd)
                    have HC3 := hid_mk (HCZ.out.kept ho (.inl (by have := HFj.out.2.2.2.2; have := hVf.out; omega)) hgz.out)
                    have hs3 : Hid (wr.heap.size ≤ w3.heap.size ∧ wr.heap.size ≤ gc) := hid_mk ⟨ho.size, hgc⟩
                    have HT3 := hid_mk (HTZ.out.kept ho (.inl (by have := HFj.out.2.2.2.2; have := hV.out; omega)) hgtf.out)
                    have hgc3 : Hid (gf < gc) := hid_mk (by have : wr.drew.heap.size = wr.heap.size := rfl; have := hgz.out; omega)
                    have HCC := hid_mk hcc
                    clear hn ho hrd hgc hcc
                    dsimp only at HCC
                    obtain ⟨ln, hln⟩ : ∃ ln, fl.length = ln := ⟨_, rfl⟩
                    dsimp only
                    rw [hln] at HCC ⊢
                    refine hK.out _ _ (HF3.out.2.1.cell (i := 2) rfl) (fun _ => ?_)
                    refine tk 5 ?_
                    refine wpAnyH_ready (rs := [6]) (by kernel_rfl) (by simp) ?_
                    refine AllReadyH.cons rfl (fun KK hK => ?_) AllReadyH.nil
                    simp only [xa, xb, xc]
                    obtain ⟨cs, q1, q2⟩ := HC3.out.cells hgo2
                    have y0 := q1.cell (i := j * 4) (Array.getElem?_eq_getElem (by omega))
                    have z0 := q1.frozen (j * 4)
                    have q3 := q1.set (j * 4) (.int .i64 f1)
                    have y1 := q3.cell (i := j * 4 + 1) (Array.getElem?_eq_getElem (by simp; omega))
                    have z1 := q3.frozen (j * 4 + 1)
                    have q4 := q3.set (j * 4 + 1) (.int .i64 f2)
                    have y2 := q4.cell (i := j * 4 + 2) (Array.getElem?_eq_getElem (by simp; omega))
                    have z2 := q4.frozen (j * 4 + 2)
                    have q5 := q4.set (j * 4 + 2) (.int .i64 f3)
                    have y3 := q5.cell (i := j * 4 + 3) (Array.getElem?_eq_getElem (by simp; omega))
                    have z3 := q5.frozen (j * 4 + 3)
                    clear q1 q3 q4 q5
                    go_simp
                    have o5 : Out gf (gf + 1) w3 ((((w3.setCell ⟨gf, j * 4, none⟩ (.int .i64 f1)).setCell ⟨gf, j * 4 + 1, none⟩ (.int .i64 f2)).setCell ⟨gf, j * 4 + 2, none⟩ (.int .i64 f3)).setCell ⟨gf, j * 4 + 3, none⟩ (.slice (some ⟨gc, 0, none⟩) ln ln)) := ((((Out.refl gf (gf + 1) w3).setCell (p := ⟨gf, j * 4, none⟩) (.inl ⟨Nat.le_refl _, Nat.lt_succ_self _⟩) _).setCell (p := ⟨gf, j * 4 + 1, none⟩) (.inl ⟨Nat.le_refl _, Nat.lt_succ_self _⟩) _).setCell (p := ⟨gf, j * 4 + 2, none⟩) (.inl ⟨Nat.le_refl _, Nat.lt_succ_self _⟩) _).setCell (p := ⟨gf, j * 4 + 3, none⟩) (.inl ⟨Nat.le_refl _, Nat.lt_succ_self _⟩) _
                    have HF6 := hid_mk (HF3.out.far o5 hVf.out)
                    have HT6 := hid_mk (HT3.out.kept o5 (.inr (Nat.le_refl _)) hgtf.out)
                    have HC6 := hid_mk (HC3.out.set (hi := w3.heap.size) (by rw [HLj.out]; exact hgo2) HC3.out.lt hs3.out.1 (f1, f2, f3, fl) hgc3.out ⟨hs3.out.2, HCC.out.lt⟩ (hln ▸ HCC.out))
                    dsimp only at HC6
                    rw [HLj.out, hln] at HC6
                    have hln' := hid_mk hln
                    clear y0 y1 y2 y3 z0 z1 z2 z3 o5 hln
                    refine hK.out _ _ (HF6.out.2.1.cell (i := 2) rfl) (fun _ => ?_)
                    refine wpAnyH_done (by kernel_rfl) ?_ _
                    go_wp2
                    go_roundw
                    case rel => exact ⟨j + 1, fs ++ [(f1, f2, f3, fl)], c7, by go_num, by omega, by rw [List.length_append, HLj.out]; rfl, rep_up HPj.out HN.out, HF6.out, HT6.out, by simp only [size_set]; exact HC6.out⟩
                    case measure => simp [intOf]; omega
                  · exact ⟨rfl, PrQ.err (HFZ.out.2.2.2.1.trans ho) (by unfold prgR; rw [bnd_ok h0.out, bnd_ok h1.out, bnd_ok h2.out, bnd_ok HP.out, bnd_ok h3.out, bnd_err (rep_err HPj.out hn hgo2)])⟩
                · have hjE : j = mf := by omega
                  subst hjE
                  have g2 : ¬ ((j : Int) < (j : Int)) := by omega
                  have f0 := HFj.out.2.1.cell (i := 0) rfl
                  have f1 := HFj.out.2.1.cell (i := 1) rfl
                  have y0 := HFj.out.1.cell (i := 0) rfl
                  have y1 := HFj.out.1.cell (i := 1) rfl
                  have y2 := HFj.out.1.cell (i := 2) rfl
                  have z0 := HFj.out.1.frozen 0
                  have z1 := HFj.out.1.frozen 1
                  have z2 := HFj.out.1.frozen 2
                  go_wp2
                  have b9 := ((HFj.out.1.set 0 (.int .i64 (x1 : Int))).set 1 (.slice (some ⟨gt, 0, none⟩) i i)).set 2 (.slice (some ⟨gf, 0, none⟩) j j)
                  have o9 : Out w.heap.size (w.heap.size + 1) wr (((wr.setCell ⟨w.heap.size, 0, none⟩ (.int .i64 (x1 : Int))).setCell ⟨w.heap.size, 1, none⟩ (.slice (some ⟨gt, 0, none⟩) i i)).setCell ⟨w.heap.size, 2, none⟩ (.slice (some ⟨gf, 0, none⟩) j j)) := (((Out.refl w.heap.size (w.heap.size + 1) wr).setCell (p := ⟨w.heap.size, 0, none⟩) (.inl ⟨Nat.le_refl _, Nat.lt_succ_self _⟩) _).setCell (p := ⟨w.heap.size, 1, none⟩) (.inl ⟨Nat.le_refl _, Nat.lt_succ_self _⟩) _).setCell (p := ⟨w.heap.size, 2, none⟩) (.inl ⟨Nat.le_refl _, Nat.lt_succ_self _⟩) _
                  have hgp9 : w.heap.size < gp := HFj.out.2.2.2.2.2
                  refine ret_cell Tryd.results42 rfl rfl (load_pr b9) (PrQ.ok (HFj.out.2.2.2.1.past o9 (Nat.le_refl _)) ?_ (HFj.out.2.2.1.off o9 HFj.out.2.2.2.2.1) (by have := hV.out; omega) (by have := hVf.out; omega) HL.out HLj.out (HTj.out.kept o9 (.inl (by have := hV.out; omega)) hgtf.out) ?_ hgtf.out)
                  · unfold prgR
                    rw [bnd_ok h0.out, bnd_ok h1.out, bnd_ok h2.out, bnd_ok HP.out, bnd_ok h3.out, bnd_ok HPj.out]; rfl
                  · simp only [size_set]
                    exact HCj.out.kept o9 (.inl (by have := hVf.out; omega)) HCj.out.lt
            · exact ⟨rfl, PrQ.err (HF.out.2.2.2.1.trans ho) (by unfold prgR; rw [bnd_ok h0.out, bnd_ok h1.out, bnd_ok h2.out, bnd_ok HP.out, bnd_err hn])⟩
      · exact ⟨rfl, PrQ.err (HS1.out.2.2.2.1.trans ho) (by unfold prgR; rw [bnd_ok h0.out, bnd_ok h1.out, bnd_err hn])⟩
    · exact ⟨rfl, PrQ.err (HS0.out.2.2.2.1.trans ho) (by unfold prgR; rw [bnd_ok h0.out, bnd_err hn])⟩
  · exact ⟨rfl, PrQ.err (HO0.out.trans ho) (by unfold prgR; rw [bnd_err hn])⟩
end Go.Proofs.YtapjfokkcgdhhaaDoor
