import Derived.Test.YtjbbkeoolodeaaaGreatDoorG02
namespace Go.Proofs.YtjbbkeoolodeaaaGreatDoor
open Go.RowKit
set_option linter.unusedVariables false
set_option linter.unusedSimpArgs false

theorem sz_cases (t : Nat) : szK t = 1 ∨ szK t = 3 ∨ szK t = 5 := by
  unfold szK
  split
  · exact .inl rfl
  · split
    · exact .inr (.inl rfl)
    · exact .inr (.inr rfl)
theorem idx_inj {t j k j0 k0 : Nat} (hk : k < szK t) (hk0 : k0 < szK t) (e : j * szK t + k = j0 * szK t + k0) : j = j0 ∧ k = k0 := by
  rcases sz_cases t with h | h | h <;> rw [h] at hk hk0 e <;> omega
theorem idxK_lt {t j k n : Nat} (hk : k < szK t) (hj : j < n) : j * szK t + k < n * szK t := by
  rcases sz_cases t with h | h | h <;> rw [h] at hk ⊢ <;> omega
/-- a row of its own, the numbers told -/
def OwnF (B : Nat) (w : World) (t : Nat) (v : Value) (n : Nat) (f : Nat → Nat → Int) : Prop :=
  ∃ xs, w.ownsRow B (etK t) (szK t) v n xs ∧ ∀ j k, j < n → k < szK t → xs[j * szK t + k]? = some (.int .i64 (f j k))
section
variable {B : Nat} {w w' : World} {t n : Nat} {v : Value} {f : Nat → Nat → Int}
theorem OwnF.shape (h : OwnF B w t v n f) : ∃ a cap, v = .slice a n cap := by obtain ⟨xs, h, _⟩ := h; exact own_shape h
theorem OwnF.lt (h : OwnF B w t v n f) {x : Nat} (hx : v.ownBlock = some x) : x < w.heap.size := by obtain ⟨xs, h, _⟩ := h; exact own_lt h hx
theorem OwnF.chg {col : Nat → Nat} {P : Nat → Prop} (h : OwnF B w t v n f) (o : Chg col P w w') (hp : ∀ x, v.ownBlock = some x → ¬ P (col x)) : OwnF B w' t v n f := by
  obtain ⟨xs, h, h2⟩ := h
  exact ⟨xs, o.own h hp, h2⟩
theorem OwnF.quiet (h : OwnF B w t v n f) (o : Out 0 0 w w') : OwnF B w' t v n f := by
  obtain ⟨xs, h, h2⟩ := h
  exact ⟨xs, own_kept h o (Nat.zero_le _), h2⟩
theorem OwnF.congr {f' : Nat → Nat → Int} (h : OwnF B w t v n f) (e : ∀ j k, j < n → k < szK t → f j k = f' j k) : OwnF B w t v n f' := by
  obtain ⟨xs, h, h2⟩ := h
  exact ⟨xs, h, fun j k hj hk => by rw [h2 j k hj hk, e j k hj hk]⟩
/-- its block, where it is not empty -/
theorem OwnF.open (h : OwnF B w t v n f) (h0 : 0 < n) : ∃ g cap, v = .slice (some ⟨g, 0, none⟩) n cap ∧ v.ownBlock = some g ∧ g < w.heap.size ∧ (∀ i, w.frozen? ⟨g, i, none⟩ = false) ∧ ∀ j k, j < n → k < szK t → w.cell? ⟨g, j * szK t + k, none⟩ = some (.int .i64 (f j k)) := by
  obtain ⟨xs, ⟨h1, h2⟩, h3⟩ := h
  rcases h2 with ⟨e, e2⟩ | ⟨g, cap, cur, rfl, r1, hh, r2, r3, r4, r5⟩
  · omega
  · refine ⟨g, cap, rfl, rfl, heap_lt hh, fun i => by simp [World.frozen?, hh], fun j k hj hk => ?_⟩
    have := h3 j k hj hk
    rw [← r5, List.getElem?_take, if_pos (idxK_lt hk hj), Array.getElem?_toList] at this
    simp [World.cell?, hh, this]
/-- a cell is written -/
theorem OwnF.set (h : OwnF B w t v n f) {g : Nat} (hg : v.ownBlock = some g) {j0 k0 : Nat} (hj : j0 < n) (hk : k0 < szK t) (x : Int) :
    OwnF B (w.setCell ⟨g, j0 * szK t + k0, none⟩ (.int .i64 x)) t v n (fun j k => if j = j0 ∧ k = k0 then x else f j k) := by
  obtain ⟨xs, ⟨h1, h2⟩, h3⟩ := h
  rcases h2 with ⟨e, e2⟩ | ⟨g', cap, cur, rfl, r1, hh, r2, r3, r4, r5⟩
  · omega
  · cases hg
    refine ⟨xs.set (j0 * szK t + k0) (.int .i64 x), ⟨by rw [List.length_set]; exact h1, .inr ⟨g', cap, cur.setIfInBounds (j0 * szK t + k0) (.int .i64 x), rfl, r1, ?_, r2, r3, by simp [r4], ?_⟩⟩, fun j k hj' hk' => ?_⟩
    · simp [World.setCell, Array.getElem?_modify, hh]
    · rw [Array.toList_setIfInBounds, List.take_set, r5]
    · have hlt := idxK_lt (t := t) hk' hj'
      by_cases q : j = j0 ∧ k = k0
      · obtain ⟨rfl, rfl⟩ := q
        show _ = some (Value.int .i64 (if j = j ∧ k = k then x else f j k))
        rw [if_pos ⟨rfl, rfl⟩, List.getElem?_set_self (by rw [h1]; exact hlt)]
      · show _ = some (Value.int .i64 (if j = j0 ∧ k = k0 then x else f j k))
        rw [if_neg q, List.getElem?_set_ne (fun e => q (by obtain ⟨a, b⟩ := idx_inj hk hk' e; exact ⟨a.symm, b.symm⟩))]
        exact h3 j k hj' hk'
end
theorem set14 {w : World} {b : Nat} {V : Nat → Value} {T : TypeId} (h : w.heap[b]? = some (.cells #[V 0, V 1, V 2, V 3, V 4, V 5, V 6, V 7, V 8, V 9, V 10, V 11, V 12, V 13] T (0, 0))) {i : Nat} (i2 : 2 ≤ i) (i14 : i < 14) (v : Value) :
    (w.setCell ⟨b, i, none⟩ v).heap[b]? = some (.cells #[(if 0 = i then v else V 0), (if 1 = i then v else V 1), (if 2 = i then v else V 2), (if 3 = i then v else V 3), (if 4 = i then v else V 4), (if 5 = i then v else V 5), (if 6 = i then v else V 6), (if 7 = i then v else V 7), (if 8 = i then v else V 8), (if 9 = i then v else V 9), (if 10 = i then v else V 10), (if 11 = i then v else V 11), (if 12 = i then v else V 12), (if 13 = i then v else V 13)] T (0, 0)) := by
  have hc : i = 2 ∨ i = 3 ∨ i = 4 ∨ i = 5 ∨ i = 6 ∨ i = 7 ∨ i = 8 ∨ i = 9 ∨ i = 10 ∨ i = 11 ∨ i = 12 ∨ i = 13 := by omega
  rcases hc with rfl | rfl | rfl | rfl | rfl | rfl | rfl | rfl | rfl | rfl | rfl | rfl <;> simp [World.setCell, Array.getElem?_modify, h]
theorem cell14 {w : World} {b : Nat} {V : Nat → Value} {T : TypeId} (h : w.heap[b]? = some (.cells #[V 0, V 1, V 2, V 3, V 4, V 5, V 6, V 7, V 8, V 9, V 10, V 11, V 12, V 13] T (0, 0))) {i : Nat} (i14 : i < 14) : w.cell? ⟨b, i, none⟩ = some (V i) := by
  have hc : i = 0 ∨ i = 1 ∨ i = 2 ∨ i = 3 ∨ i = 4 ∨ i = 5 ∨ i = 6 ∨ i = 7 ∨ i = 8 ∨ i = 9 ∨ i = 10 ∨ i = 11 ∨ i = 12 ∨ i = 13 := by omega
  rcases hc with rfl | rfl | rfl | rfl | rfl | rfl | rfl | rfl | rfl | rfl | rfl | rfl | rfl | rfl <;> simp [World.cell?, h]
theorem froz14 {w : World} {b : Nat} {xs : Array Value} {T : TypeId} (h : w.heap[b]? = some (.cells xs T (0, 0))) (i : Nat) : w.frozen? ⟨b, i, none⟩ = false := by simp [World.frozen?, h]
section
variable {B : Nat} {w w' : World} {b : Nat} {V : Nat → Value} {X : Nat → List Value} {C : Nat → Nat → Nat × (Nat → Nat → Int)} {col col' : Nat → Nat} {cur : Option (Nat × Nat)} {p : Nat → Nat}
theorem Kp.cell (h : Kp B w b V X C col cur p) (i : Nat) (hi : i < 14) : w.cell? ⟨b, i, none⟩ = some (V i) := cell14 h.hb hi
/-- a list or a mark behind the others of its slot -/
theorem Kp.push (h : Kp B w b V X C col cur p) {i : Nat} (i2 : 2 ≤ i) (i14 : i < 14) {x : Value} {w1 w2 : World} {g cap : Nat} (o1 : Out 0 0 w w1) (own : w2.ownsRow B (tyS i) 1 (.slice (some ⟨g, 0, none⟩) ((X i).length + 1) cap) ((X i).length + 1) (X i ++ [x])) (gr : Grew w1 w2 (V i) g)
    (hL : ∀ t, t < 3 → i = 2 + 2 * t → p t ≤ (X i).length → LeftC B w col t (X i).length x (C t (X i).length).1 (C t (X i).length).2)
    (hW : ∀ t, t < 3 → i = 3 + 2 * t → WereC w col x (C t (X i).length).1 (szK t) (C t (X i).length).2)
    (hF : ∀ t, t < 3 → i = 8 + t → (X (11 + t)).length ≤ (X i).length)
    (hM : ∀ t, t < 3 → i = 11 + t → ∀ v, (X (8 + t))[(X i).length]? = some v → ∃ m : Nat, x = .int .i64 (m : Int) ∧ FullC w col cur t v m) :
    w2.heap[b]? = some (.cells #[V 0, V 1, V 2, V 3, V 4, V 5, V 6, V 7, V 8, V 9, V 10, V 11, V 12, V 13] 48 (0, 0)) ∧
    ∃ V' X' col', V' i = .slice (some ⟨g, 0, none⟩) ((X i).length + 1) cap ∧ X' i = X i ++ [x] ∧ (∀ j, j ≠ i → V' j = V j ∧ X' j = X j) ∧ Kp B (w2.setCell ⟨b, i, none⟩ (.slice (some ⟨g, 0, none⟩) ((X i).length + 1) cap)) b V' X' C col' cur p ∧ (∀ y, y < w.heap.size → col' y = col y) ∧ Chg col (fun c => c = 0 ∨ c = 10 + i) w (w2.setCell ⟨b, i, none⟩ (.slice (some ⟨g, 0, none⟩) ((X i).length + 1) cap)) := by
  obtain ⟨v', hv'⟩ : ∃ v', Value.slice (some ⟨g, 0, none⟩) ((X i).length + 1) cap = v' := ⟨_, rfl⟩
  have hvb : v'.ownBlock = some g := by rw [← hv']; rfl
  rw [hv'] at own ⊢
  have hcol : ∀ y, y < w.heap.size → updK col g (10 + i) y = col y := by
    intro y hy
    rcases gr with ⟨_, hg⟩ | ⟨hg, _⟩
    · exact updK_other (by have := o1.size; omega)
    · by_cases e : y = g
      · subst e; rw [updK_self, h.co i i2 i14 y hg]
      · exact updK_other e
  have hgb : g ≠ b := by
    intro e
    subst e
    rcases gr with ⟨_, hg⟩ | ⟨hg, _⟩
    · have := heap_lt h.hb; have := o1.size; omega
    · have := h.co i i2 i14 _ hg; rw [h.cb] at this; omega
  have ch1 : Chg col (fun c => c = 10 + i) w w2 := (Chg.of_out o1 _ _).trans (Chg.grew gr fun y hy => h.co i i2 i14 y hy)
  have ch2 : Chg col (fun c => c = 0 ∨ c = 10 + i) w w2 := ch1.mono fun c hc => .inr hc
  have hb2 := ch1.heap h.hb (by rw [h.cb]; omega)
  have ch3 : Chg col (fun c => c = 0 ∨ c = 10 + i) w (w2.setCell ⟨b, i, none⟩ v') := ch2.setCell (.inl h.cb) _
  have hr : Kp B w b V X C (updK col g (10 + i)) cur p := h.recol fun y hy _ => hcol y hy
  have ch4 : Chg (updK col g (10 + i)) (fun c => c = 0 ∨ c = 10 + i) w (w2.setCell ⟨b, i, none⟩ v') := ch3.recol fun k hk hp => by rw [← hcol k hk]; exact hp
  have no : ∀ c, c ≠ 0 → c ≠ 10 + i → ¬ (c = 0 ∨ c = 10 + i) := fun c h1 h2 h3 => by rcases h3 with h3 | h3 <;> contradiction
  refine ⟨hb2, fun j => if j = i then v' else V j, fun j => if j = i then X i ++ [x] else X j, updK col g (10 + i), if_pos rfl, if_pos rfl, fun j hj => ⟨if_neg hj, if_neg hj⟩, ⟨Nat.le_trans hr.hB ch4.size, set14 hb2 i2 i14 v', hr.cb, fun j j2 j14 => ?_, fun j j2 j14 y hy => ?_, fun t j v ht hp hv => ?_, fun t j v ht hv => ?_, fun t j v z ht hv hz => ?_⟩, hcol, ch3⟩
  · by_cases e : j = i
    · subst e
      rw [if_pos rfl, if_pos rfl, List.length_append]
      obtain ⟨k1, k2⟩ := own
      refine ⟨k1, ?_⟩
      rcases k2 with k2 | ⟨g', cap', cu, e, r1, r2, r3⟩
      · exact .inl k2
      · refine .inr ⟨g', cap', cu, e, r1, ?_, r3⟩
        rw [e] at hvb
        cases hvb
        rw [Below.heap_setCell _ _ _ _ hgb]
        exact r2
    · rw [if_neg e, if_neg e]
      exact ch4.own (hr.own j j2 j14) fun y hy => by rw [hr.co j j2 j14 y hy]; exact no _ (by omega) (by omega)
  · by_cases e : j = i
    · subst e
      rw [if_pos rfl, hvb] at hy
      cases hy
      exact updK_self _ _ _
    · rw [if_neg e] at hy
      exact hr.co j j2 j14 y hy
  · by_cases e : 2 + 2 * t = i
    · rw [if_pos e] at hv
      by_cases hj : j < (X i).length
      · rw [List.getElem?_append_left hj, ← e] at hv
        exact (hr.lf t j v ht hp hv).chg ch4 (no _ (by omega) (by omega))
      · have hj2 : j = (X i).length := by
          have := (List.getElem?_eq_some_iff.1 hv).1
          simp at this; omega
        subst hj2
        rw [List.getElem?_append_right (Nat.le_refl _)] at hv
        simp at hv
        subst hv
        have q := (hL t ht e.symm hp).recol (col' := updK col g (10 + i)) fun y hy _ => hcol y hy
        exact q.chg ch4 (no _ (by omega) (by omega))
    · rw [if_neg e] at hv
      exact (hr.lf t j v ht hp hv).chg ch4 (no _ (by omega) (by omega))
  · by_cases e : 3 + 2 * t = i
    · rw [if_pos e] at hv
      by_cases hj : j < (X i).length
      · rw [List.getElem?_append_left hj, ← e] at hv
        exact (hr.wr t j v ht hv).chg ch4 (no _ (by omega) (by omega))
      · have hj2 : j = (X i).length := by
          have := (List.getElem?_eq_some_iff.1 hv).1
          simp at this; omega
        subst hj2
        rw [List.getElem?_append_right (Nat.le_refl _)] at hv
        simp at hv
        subst hv
        have q := (hW t ht e.symm).recol (col' := updK col g (10 + i)) fun y hy _ => hcol y hy
        exact q.chg ch4 (no _ (by omega) (by omega))
    · rw [if_neg e] at hv
      exact (hr.wr t j v ht hv).chg ch4 (no _ (by omega) (by omega))
  · have key : ∀ m, FullC w col cur t v m → FullC (w2.setCell ⟨b, i, none⟩ v') (updK col g (10 + i)) cur t v m := fun m q =>
      (q.recol (col' := updK col g (10 + i)) fun y hy _ => hcol y hy).chg ch4 (no _ (by omega) (by omega)) (.inr (no _ (by omega) (by omega)))
    by_cases e : 8 + t = i
    · rw [if_pos e] at hv
      rw [if_neg (by omega)] at hz
      have hz1 := (List.getElem?_eq_some_iff.1 hz).1
      have hf := hF t ht e.symm
      have hj : j < (X i).length := by omega
      rw [List.getElem?_append_left hj, ← e] at hv
      obtain ⟨m, e1, e2⟩ := h.fl t j v z ht hv hz
      exact ⟨m, e1, key m e2⟩
    · rw [if_neg e] at hv
      by_cases e3 : 11 + t = i
      · rw [if_pos e3] at hz
        by_cases hj : j < (X i).length
        · rw [List.getElem?_append_left hj, ← e3] at hz
          obtain ⟨m, e1, e2⟩ := h.fl t j v z ht hv hz
          exact ⟨m, e1, key m e2⟩
        · have hj2 : j = (X i).length := by
            have := (List.getElem?_eq_some_iff.1 hz).1
            simp at this; omega
          subst hj2
          rw [List.getElem?_append_right (Nat.le_refl _)] at hz
          simp at hz
          subst hz
          obtain ⟨m, e1, e2⟩ := hM t ht e3.symm v hv
          exact ⟨m, e1, key m e2⟩
      · rw [if_neg e3] at hz
        obtain ⟨m, e1, e2⟩ := h.fl t j v z ht hv hz
        exact ⟨m, e1, key m e2⟩
/-- a list that was left is taken, to be marked -/
theorem Kp.take (h : Kp B w b V X C col none p) {t i : Nat} {v : Value} (ht : t < 3) (hp : p t ≤ i) (hv : (X (2 + 2 * t))[i]? = some v) :
    ∃ col', Kp B w b V X C col' none (fun s => if s = t then i + 1 else p s) ∧ OwnF B w t v (C t i).1 (C t i).2 ∧ (C t i).1 ≤ 1536 ∧ (∀ x, v.ownBlock = some x → col' x = 8) ∧ Fix col col' w w := by
  obtain ⟨h1, h2, h3⟩ := h.lf t i v ht hp hv
  have ne : ∀ x, col x ≠ 100 + 3 * i + t → (if col x = 100 + 3 * i + t then 8 else col x) = col x := fun x hx => by rw [if_neg hx]
  refine ⟨fun x => if col x = 100 + 3 * i + t then 8 else col x, ⟨h.hB, h.hb, ?_, h.own, fun j j1 j2 x hx => ?_, fun s j u hs hj hu => ?_, fun s j u hs hu => ?_, fun s j u z hs hu hz => ?_⟩, h1, h2, fun x hx => ?_, Chg.of_out (Out.refl 0 0 _) _ _, fun k _ h7 => ?_⟩
  · exact (ne b (by rw [h.cb]; omega)).trans h.cb
  · have := h.co j j1 j2 x hx
    exact (ne x (by omega)).trans this
  · have hj2 : p s ≤ j := by
      by_cases q : s = t
      · rw [if_pos q] at hj; subst q; omega
      · rw [if_neg q] at hj; exact hj
    obtain ⟨q1, q2, q3⟩ := h.lf s j u hs hj2 hu
    refine ⟨q1, q2, fun x hx => ?_⟩
    have := q3 x hx
    refine (ne x ?_).trans this
    by_cases q : s = t
    · subst q; rw [if_pos rfl] at hj; omega
    · omega
  · obtain ⟨a, cap, e1, hr⟩ := h.wr s j u hs hu
    refine ⟨a, cap, e1, fun h0 => ?_⟩
    obtain ⟨g, g0, g1, g2, g3⟩ := hr h0
    exact ⟨g, g0, g1, (ne g (by omega)).trans g2, g3⟩
  · obtain ⟨m', e1, a, n, cap, e2, hn, hr⟩ := h.fl s j u z hs hu hz
    refine ⟨m', e1, a, n, cap, e2, hn, fun h0 => ?_⟩
    obtain ⟨g, g0, g1, g2, g3⟩ := hr h0
    refine ⟨g, g0, g1, ?_, g3⟩
    rcases g2 with g2 | ⟨_, g2⟩
    · exact .inl ((ne g (by omega)).trans g2)
    · cases g2
  · show (if col x = 100 + 3 * i + t then 8 else col x) = 8
    rw [if_pos (h3 x hx)]
  · show (if col k = 100 + 3 * i + t then 8 else col k) = 7
    rw [if_neg (by omega)]; exact h7
/-- one more mark behind the list that grows -/
theorem Kp.grow {t m : Nat} (h : Kp B w b V X C col (some (t, m)) p) {v : Value} {n : Nat} (hown : OwnF B w t v n (fun _ k => mkF t m k)) (hc : ∀ x, v.ownBlock = some x → col x = 8 ∨ col x = 9) {l : Value} {n0 : Nat} (hl : OwnF B w t l n0 (fun _ k => mkF t m k)) (hc0 : ∀ x, l.ownBlock = some x → col x = 8) (hn0 : n0 ≤ n)
    {news : List Value} (hnl : news.length = szK t) (hnews : ∀ k, k < szK t → news[k]? = some (.int .i64 (mkF t m k))) {w1 w2 : World} {g cap : Nat} (o1 : Out 0 0 w w1) {xs : List Value} (hxs : ∀ j k, j < n → k < szK t → xs[j * szK t + k]? = some (.int .i64 (mkF t m k))) (hxl : xs.length = n * szK t) (own : w2.ownsRow B (etK t) (szK t) (.slice (some ⟨g, 0, none⟩) (n + 1) cap) (n + 1) (xs ++ news)) (gr : GrewX w1 w2 v g (n * szK t) news) :
    ∃ col', Kp B w2 b V X C col' (some (t, m)) p ∧ OwnF B w2 t (.slice (some ⟨g, 0, none⟩) (n + 1) cap) (n + 1) (fun _ k => mkF t m k) ∧ (col' g = 8 ∨ col' g = 9) ∧ OwnF B w2 t l n0 (fun _ k => mkF t m k) ∧ (∀ x, l.ownBlock = some x → col' x = 8) ∧ Fix col col' w w2 := by
  have hnew : OwnF B w2 t (.slice (some ⟨g, 0, none⟩) (n + 1) cap) (n + 1) (fun _ k => mkF t m k) := by
    refine ⟨xs ++ news, own, fun j k hj hk => ?_⟩
    by_cases q : j < n
    · rw [List.getElem?_append_left (by rw [hxl]; exact idxK_lt hk q)]
      exact hxs j k q hk
    · have : j = n := by omega
      subst this
      rw [List.getElem?_append_right (by rw [hxl]; omega), hxl, Nat.add_sub_cancel_left]
      exact hnews k hk
  rcases gr with ⟨g1, g2⟩ | ⟨g1, g2, cu, cu', e, c1, c2, c3, c4⟩
  · have o2 : Out 0 0 w w2 := o1.trans ⟨g1.os, g1.tape, g1.output, g1.size, fun k hk' _ => g1.block k hk' (by simp)⟩
    have he : ∀ x, x < w.heap.size → updK col g 9 x = col x := fun x hx => updK_other (by have := o1.size; omega)
    refine ⟨updK col g 9, (h.recol fun x hx _ => he x hx).quiet o2, hnew, .inr (updK_self _ _ _), hl.quiet o2, fun x hx => by rw [he x (hl.lt hx)]; exact hc0 x hx, Fix.of (P := fun c => c = 9) (Chg.of_out o2 _ _) (by omega) (fun k hk h7 => by rw [he k hk]; exact h7)⟩
  · have ch : Chg col (fun c => c = 8 ∨ c = 9) w w2 := (Chg.of_out o1 _ _).trans (Chg.grew (v := v) (.inr ⟨g1, g2⟩) fun x hx => hc x hx)
    have cellg : ∀ j k, k < szK t → (∃ u, w.cell? ⟨g, j * szK t + k, none⟩ = some u ∧ (n ≤ j → u = .int .i64 (mkF t m k))) → w2.cell? ⟨g, j * szK t + k, none⟩ = w.cell? ⟨g, j * szK t + k, none⟩ := by
      rintro j k hk ⟨u, hu, hun⟩
      have hu1 := o1.cell hu (.inr (Nat.zero_le _))
      rw [hu]
      have q1 : w1.cell? ⟨g, j * szK t + k, none⟩ = cu[j * szK t + k]? := by simp [World.cell?, c1]
      have q2 : w2.cell? ⟨g, j * szK t + k, none⟩ = cu'[j * szK t + k]? := by simp [World.cell?, c2]
      rw [q2]
      rw [q1] at hu1
      obtain ⟨d1, d2, d3⟩ := c4 (j * szK t + k)
      by_cases a1 : j < n
      · rw [d1 (idxK_lt hk a1)]; exact hu1
      · by_cases a2 : j = n
        · subst a2
          obtain ⟨_, _, d4⟩ := c4 k
          rw [d4 (by rw [hnl]; exact hk), hnews k hk, hun (Nat.le_refl _)]
        · rw [d2 ?_]; exact hu1
          rw [hnl]
          have : (n + 1) * szK t ≤ j * szK t := Nat.mul_le_mul_right _ (by omega)
          rw [Nat.add_mul, Nat.one_mul] at this
          omega
    have no : ∀ c, c ≠ 8 → c ≠ 9 → ¬ (c = 8 ∨ c = 9) := fun c h1 h2 h3 => by rcases h3 with h3 | h3 <;> contradiction
    refine ⟨col, ⟨Nat.le_trans h.hB ch.size, ch.heap h.hb (by rw [h.cb]; omega), h.cb, fun i h1 h2 => ch.own (h.own i h1 h2) fun x hx => ?_, h.co, fun t i v ht hp hv => (h.lf t i v ht hp hv).chg ch (no _ (by omega) (by omega)), fun t i v ht hv => (h.wr t i v ht hv).chg ch (no _ (by omega) (by omega)), fun t' i u z ht hv hz => ?_⟩, hnew, hc g g1, ?_, hc0, Fix.of ch (by omega) fun _ _ h => h⟩
    · rw [h.co i h1 h2 x hx]; exact no _ (by omega) (by omega)
    · obtain ⟨m', e1, a, nn, cp, e2, hn, hr⟩ := h.fl t' i u z ht hv hz
      refine ⟨m', e1, a, nn, cp, e2, hn, fun h0 => ?_⟩
      obtain ⟨y, y0, y1, y2, y3⟩ := hr h0
      refine ⟨y, y0, Nat.lt_of_lt_of_le y1 ch.size, y2, fun j k hj hk => ?_⟩
      by_cases q : y = g
      · subst q
        rcases y2 with y2 | ⟨y2, y4⟩
        · have := hc y g1; omega
        · cases y4
          rw [cellg j k hk ⟨_, y3 j k hj hk, fun _ => rfl⟩]
          exact y3 j k hj hk
      · have hh : w2.heap[y]? = w.heap[y]? := (g2.block y (Nat.lt_of_lt_of_le y1 o1.size) (by simpa using q)).trans (o1.block y1 (.inr (Nat.zero_le _)))
        rw [World.cell?_of_block (w := w) (a := ⟨y, j * szK t' + k, none⟩) hh]
        exact y3 j k hj hk
    · obtain ⟨ys, ⟨l1, l2⟩, l3⟩ := hl
      refine ⟨ys, ⟨l1, ?_⟩, l3⟩
      rcases l2 with l2 | ⟨g', cp', cu2, rfl, r1, hh, r2, r3, r4, r5⟩
      · exact .inl l2
      · have hh1 := o1.heap hh (.inr (Nat.zero_le _))
        by_cases q : g' = g
        · subst q
          rw [c1] at hh1
          cases hh1
          refine .inr ⟨g', cp', cu', rfl, r1, c2, r2, r3, by rw [c3]; exact r4, ?_⟩
          rw [← r5]
          apply List.ext_getElem?
          intro q
          rw [List.getElem?_take, List.getElem?_take]
          by_cases hq : q < n0 * szK t
          · rw [if_pos hq, if_pos hq, Array.getElem?_toList, Array.getElem?_toList]
            exact (c4 q).1 (Nat.lt_of_lt_of_le hq (Nat.mul_le_mul_right _ hn0))
          · rw [if_neg hq, if_neg hq]
        · exact .inr ⟨g', cp', cu2, rfl, r1, (g2.block g' (heap_lt hh1) (by simpa using q)).trans hh1, r2, r3, r4, r5⟩
/-- the list that has grown goes among the full ones: in a block of its own, it is one of their colour -/
theorem Kp.recol95 {t m : Nat} (h : Kp B w b V X C col (some (t, m)) p) {v : Value} {n : Nat} (hown : OwnF B w t v n (fun _ k => mkF t m k)) (hc : ∀ x, v.ownBlock = some x → col x = 8 ∨ col x = 9) (hn : n ≤ 1700 ∧ m ≤ 2000000) :
    ∃ col', Kp B w b V X C col' (some (t, m)) p ∧ FullC w col' (some (t, m)) t v m ∧ (∀ x, x < w.heap.size → col x ≠ 9 → col' x = col x) := by
  cases hb : v.ownBlock with
  | none =>
    refine ⟨col, h, ?_, fun _ _ _ => rfl⟩
    obtain ⟨a, cap, rfl⟩ := hown.shape
    refine ⟨a, n, cap, rfl, hn, fun h0 => ?_⟩
    obtain ⟨g, cap', e, e2, _⟩ := hown.open h0
    rw [hb] at e2; cases e2
  | some g =>
    by_cases q : col g = 9
    · have he : ∀ x, x < w.heap.size → col x ≠ 9 → updK col g 5 x = col x := fun x _ hx => updK_other (by intro e; subst e; exact hx q)
      refine ⟨updK col g 5, h.recol he, ?_, he⟩
      obtain ⟨a, cap, rfl⟩ := hown.shape
      refine ⟨a, n, cap, rfl, hn, fun h0 => ?_⟩
      obtain ⟨g', cap', e, e2, e3, _, e4⟩ := hown.open h0
      rw [hb] at e2; cases e2
      cases e
      exact ⟨g, rfl, e3, .inl (updK_self _ _ _), e4⟩
    · refine ⟨col, h, ?_, fun _ _ _ => rfl⟩
      obtain ⟨a, cap, rfl⟩ := hown.shape
      refine ⟨a, n, cap, rfl, hn, fun h0 => ?_⟩
      obtain ⟨g', cap', e, e2, e3, _, e4⟩ := hown.open h0
      rw [hb] at e2; cases e2
      cases e
      have := hc g hb
      exact ⟨g, rfl, e3, .inr ⟨by omega, rfl⟩, e4⟩
end
end Go.Proofs.YtjbbkeoolodeaaaGreatDoor
