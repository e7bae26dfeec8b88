import Derived.Test.YtcnjlbjpeklgkaaGreatDoorR30
namespace Go.Proofs.YtcnjlbjpeklgkaaGreatDoor
set_option linter.unusedVariables false
set_option linter.unusedSimpArgs false

theorem ws_ahead (b : List Int) (h : ∀ c ∈ b, blB c = true) (s : List Int) : wsF (b ++ s) = wsF s := by
  unfold wsF
  induction b with
  | nil => rfl
  | cons c b ih =>
    simp only [List.cons_append, wsA, h c (by simp), if_true]
    exact ih (fun d hd => h d (by simp [hd]))
/-- blanks, and a remark that may follow them -/
def Tail (r : List Int) : Prop := wsA .gap r = some [] ∧ (r = [] ∨ ∃ d q, r = d :: q ∧ (blB d = true ∨ d = 59))
theorem tail_word {r : List Int} (h : Tail r) (w : List Int) : wsA (.word w) r = some [w] := by
  obtain ⟨h1, rfl | ⟨d, q, rfl, hd⟩⟩ := h
  · rfl
  · by_cases hb : blB d = true
    · simp only [wsA, hb, if_true] at h1 ⊢
      rw [h1]; rfl
    · have hd : d = 59 := by rcases hd with h | h; exact absurd h hb; exact h
      simp only [wsA]
      rw [if_neg hb, if_pos hd]
theorem tail_shut {r : List Int} (h : Tail r) (w : List Int) : wsA (.shut w) r = some [w] := by
  obtain ⟨h1, rfl | ⟨d, q, rfl, hd⟩⟩ := h
  · rfl
  · by_cases hb : blB d = true
    · simp only [wsA, hb, if_true] at h1 ⊢
      rw [h1]; rfl
    · have hd : d = 59 := by rcases hd with h | h; exact absurd h hb; exact h
      simp only [wsA]
      rw [if_neg hb, if_pos hd]
theorem ws_tail {r : List Int} (h : Tail r) (s : List Int) : ∀ (st : Sc) (ws : List (List Int)), wsA st s = some ws → wsA st (s ++ r) = some ws := by
  induction s with
  | nil =>
    intro st ws e
    cases st with
    | gap => simp only [wsA] at e; rw [← e]; exact h.1
    | word w => simp only [wsA] at e; rw [← e]; exact tail_word h w
    | quo q w => simp [wsA] at e
    | esc q w => simp [wsA] at e
    | shut w => simp only [wsA] at e; rw [← e]; exact tail_shut h w
  | cons c s ih =>
    intro st ws e
    cases st with
    | gap =>
      simp only [wsA, List.cons_append] at e ⊢
      split at e
      · rename_i q; rw [if_pos q]; exact ih _ _ e
      · rename_i q; rw [if_neg q]
        split at e
        · rename_i q; rw [if_pos q]; exact e
        · rename_i q; rw [if_neg q]
          split at e
          · rename_i q; rw [if_pos q]; exact ih _ _ e
          · rename_i q; rw [if_neg q]; exact ih _ _ e
    | word w =>
      simp only [wsA, List.cons_append] at e ⊢
      split at e
      · rename_i q; rw [if_pos q]
        obtain ⟨v, hv, hw⟩ := Option.map_eq_some_iff.mp e
        rw [ih _ _ hv, ← hw]; rfl
      · rename_i q; rw [if_neg q]
        split at e
        · rename_i q; rw [if_pos q]; exact e
        · rename_i q; rw [if_neg q]; exact ih _ _ e
    | quo q w =>
      simp only [wsA, List.cons_append] at e ⊢
      split at e
      · rename_i q; rw [if_pos q]; exact ih _ _ e
      · rename_i q; rw [if_neg q]
        split at e
        · rename_i q; rw [if_pos q]; exact ih _ _ e
        · rename_i q; rw [if_neg q]; exact ih _ _ e
    | esc q w =>
      simp only [wsA, List.cons_append] at e ⊢
      exact ih _ _ e
    | shut w =>
      simp only [wsA, List.cons_append] at e ⊢
      split at e
      · rename_i q; rw [if_pos q]
        obtain ⟨v, hv, hw⟩ := Option.map_eq_some_iff.mp e
        rw [ih _ _ hv, ← hw]; rfl
      · rename_i q; rw [if_neg q]
        split at e
        · rename_i q; rw [if_pos q]; exact e
        · simp at e
/-- a line dressed: blanks ahead, a tail behind -/
theorem ws_dressed {b s r : List Int} {ws : List (List Int)} (hb : ∀ c ∈ b, blB c = true) (hr : Tail r) (h : wsF s = some ws) : wsF (b ++ (s ++ r)) = some ws := by
  rw [ws_ahead b hb]
  exact ws_tail hr s _ _ h
/-- a line without words does nothing -/
theorem line_empty (pl : Int → Bool) (m : MkF) (i : Nat) (s : List Int) (h : wsF s = some []) : m.line pl i s = m := by
  unfold MkF.line
  rw [h]
  rfl

/-- what is wrong, and what waits for a label, stands in a line that was read -/
def Seen (m : MkF) (k : Nat) : Prop := m.bad ≤ k ∧ ∀ u ∈ m.use, u.2.1 ≤ k
theorem Seen.wrong {m : MkF} {k line : Nat} (h : Seen m k) (hl : line ≤ k) : Seen (m.wrong line) k := by
  unfold MkF.wrong
  split
  · exact ⟨hl, h.2⟩
  · exact h
theorem Seen.more {m : MkF} {k l : Nat} (h : Seen m k) (hl : k ≤ l) : Seen m l := ⟨by have := h.1; omega, fun u hu => by have := h.2 u hu; omega⟩
theorem use1_bad (m : MkF) (u : Nat × Nat × List Int) (k : Nat) (h : m.bad ≤ k) (hu : u.2.1 ≤ k) : (m.use1 u).bad ≤ k := by
  unfold MkF.use1
  split
  · exact h
  · unfold MkF.wrong
    split
    · exact hu
    · exact h
theorem uses_bad (k : Nat) (us : List (Nat × Nat × List Int)) : ∀ m : MkF, m.bad ≤ k → (∀ u ∈ us, u.2.1 ≤ k) → (us.foldl MkF.use1 m).bad ≤ k := by
  induction us with
  | nil => intro m h _; exact h
  | cons u us ih =>
    intro m h hu
    exact ih _ (use1_bad m u k h (hu u (by simp))) (fun v hv => hu v (by simp [hv]))
theorem Seen.ends {m : MkF} {k : Nat} (h : Seen m k) : Seen m.ends k := by
  refine ⟨uses_bad k m.use m h.1 h.2, fun u hu => ?_⟩
  unfold MkF.ends at hu
  simp at hu
theorem Seen.line {m : MkF} {k i : Nat} (h : Seen m k) (pl : Int → Bool) (s : List Int) (hi : k ≤ i) : Seen (m.line pl i s) i := by
  have h' := h.more hi
  unfold MkF.line
  split
  · rename_i m' e
    obtain ⟨ws, _, e2⟩ := Option.bind_eq_some_iff.mp e
    unfold MkF.words at e2
    split at e2
    · cases e2; exact h'
    · split at e2
      · unfold MkF.mark at e2
        split at e2
        · cases e2; exact h'
        · cases e2
      · split at e2
        · unfold MkF.globals at e2
          split at e2
          · split at e2
            · cases e2
            · cases e2; exact h'
          · cases e2
        · split at e2
          · unfold MkF.text at e2
            split at e2
            · split at e2
              · cases e2
              · obtain ⟨b, _, e3⟩ := Option.map_eq_some_iff.mp e2
                cases e3; exact h'
            · cases e2
          · split at e2
            · unfold MkF.func at e2
              split at e2
              · cases e2
                exact h'.ends
              · cases e2
            · unfold MkF.ins at e2
              split at e2
              · cases e2
              · split at e2
                · split at e2
                  · split at e2
                    · cases e2; exact h'
                    · cases e2
                      refine ⟨h'.1, fun u hu => ?_⟩
                      rcases List.mem_append.mp hu with q | q
                      · exact h'.2 u q
                      · have := List.mem_singleton.mp q
                        subst this
                        exact Nat.le_refl _
                    · cases e2
                  · cases e2
                · split at e2
                  · cases e2; exact h'
                  · cases e2
  · exact h'.wrong (Nat.le_refl i)
theorem Seen.run (pl : Int → Bool) (ls : List (List Int)) : ∀ (m : MkF) (k : Nat), Seen m k → Seen (m.run pl (k + 1) ls) (k + ls.length) := by
  induction ls with
  | nil => intro m k h; exact h
  | cons s ls ih =>
    intro m k h
    have := ih _ (k + 1) (h.line pl s (Nat.le_succ k))
    simp only [MkF.run, List.length_cons]
    rw [show k + (ls.length + 1) = k + 1 + ls.length by omega]
    exact this
theorem lnsA_len (t : List Int) : ∀ l, (lnsA l t).length ≤ t.length + (if l = [] then 0 else 1) := by
  induction t with
  | nil => intro l; simp only [lnsA]; split <;> simp
  | cons c t ih =>
    intro l
    simp only [lnsA]
    split
    · have := ih []
      simp only [List.length_cons, if_true] at this ⊢
      split <;> omega
    · have := ih (l ++ [c])
      rw [if_neg (by simp)] at this
      simp only [List.length_cons]
      split <;> omega
/-- the least wrong line is a line of the text -/
theorem bad_le (pl : Int → Bool) (t : List Int) : ((MkF.zero.run pl 1 (lnsF t)).ends).bad ≤ t.length := by
  have h : Seen MkF.zero 0 := ⟨Nat.le_refl 0, fun u hu => by simp [MkF.zero] at hu⟩
  have h2 := (Seen.run pl (lnsF t) _ 0 h).ends.1
  have h3 := lnsA_len t []
  simp only [if_true] at h3
  unfold lnsF at h2 ⊢
  simp only [Nat.zero_add] at h2
  omega
end Go.Proofs.YtcnjlbjpeklgkaaGreatDoor
namespace Go.Proofs.YtcnjlbjpeklgkaaGreatDoor
set_option linter.unusedVariables false
set_option linter.unusedSimpArgs false

/-- all lines that wait have a number -/
def Pos (us : List (Nat × Nat × List Int)) : Prop := ∀ u ∈ us, 0 < u.2.1
theorem wrong_mono (m : MkF) (i : Nat) (hi : 0 < i) (h : m.bad ≠ 0) : (m.wrong i).bad ≠ 0 := by
  unfold MkF.wrong
  split
  · simp only; omega
  · exact h
theorem wrong_badP (m : MkF) (i : Nat) (hi : 0 < i) : (m.wrong i).bad ≠ 0 := by
  unfold MkF.wrong
  split
  · simp only; omega
  · omega
theorem use1_mono (m : MkF) (u : Nat × Nat × List Int) (hu : 0 < u.2.1) (h : m.bad ≠ 0) : (m.use1 u).bad ≠ 0 := by
  unfold MkF.use1
  split
  · exact h
  · exact wrong_mono m _ hu h
theorem uses_mono (us : List (Nat × Nat × List Int)) (hp : Pos us) : ∀ m : MkF, m.bad ≠ 0 → (us.foldl MkF.use1 m).bad ≠ 0 := by
  induction us with
  | nil => intro m h; exact h
  | cons u us ih => intro m h; exact ih (fun v hv => hp v (by simp [hv])) _ (use1_mono m u (hp u (by simp)) h)
/-- the same, with other uses -/
def MkF.re (m : MkF) (us : List (Nat × Nat × List Int)) : MkF := { m with use := us }
theorem use1_re (m : MkF) (x : List (Nat × Nat × List Int)) (u v : Nat × Nat × List Int) (hu : 0 < u.2.1) (hv : v.1 = u.1 ∧ v.2.2 = u.2.2) (hb : (m.use1 u).bad = 0) : (m.re x).use1 v = (m.use1 u).re x := by
  unfold MkF.use1 at hb ⊢
  have e : (m.re x).lab = m.lab := rfl
  rw [e, hv.1, hv.2]
  split
  · rename_i l hl
    rfl
  · rename_i hl
    rw [hl] at hb
    exact absurd hb (wrong_badP m _ hu)
theorem uses_re (us : List (Nat × Nat × List Int)) : ∀ (vs x : List (Nat × Nat × List Int)) (m : MkF), Pos us → unl vs = unl us → (us.foldl MkF.use1 m).bad = 0 → vs.foldl MkF.use1 (m.re x) = (us.foldl MkF.use1 m).re x := by
  induction us with
  | nil =>
    intro vs x m _ hv _
    have : vs = [] := by
      unfold unl at hv
      simpa using hv
    rw [this]
    rfl
  | cons u us ih =>
    intro vs x m hp hv hb
    cases vs with
    | nil => simp [unl] at hv
    | cons v vs =>
      simp only [unl, List.map_cons, List.cons.injEq, Prod.mk.injEq] at hv
      have hp' : Pos us := fun w hw => hp w (by simp [hw])
      have hb1 : (m.use1 u).bad = 0 := by
        apply Classical.byContradiction
        intro hne
        exact uses_mono us hp' _ hne hb
      simp only [List.foldl_cons]
      rw [use1_re m x u v (hp u (by simp)) hv.1 hb1]
      exact ih vs x _ hp' hv.2 hb
theorem ends_re (m : MkF) (vs : List (Nat × Nat × List Int)) (hp : Pos m.use) (hv : unl vs = unl m.use) (hb : m.ends.bad = 0) : (m.re vs).ends = m.ends := by
  have hb' : (m.use.foldl MkF.use1 m).bad = 0 := hb
  have e := uses_re m.use vs vs m hp hv hb'
  unfold MkF.ends
  have e1 : (m.re vs).use = vs := rfl
  rw [e1, e]
  rfl
/-- a line's words, at another place -/
theorem words_re (pl : Int → Bool) (m m1 : MkF) (vs : List (Nat × Nat × List Int)) (i j : Nat) (ws : List (List Int)) (hp : Pos m.use) (hv : unl vs = unl m.use) (e : m.words pl i ws = some m1) (hb : m1.bad = 0) :
    ∃ vs1, unl vs1 = unl m1.use ∧ (m.re vs).words pl j ws = some (m1.re vs1) := by
  unfold MkF.words at e ⊢
  split at e
  · cases e; exact ⟨vs, hv, rfl⟩
  · rename_i w l
    split at e
    · rename_i q
      rw [if_pos q]
      unfold MkF.mark at e ⊢
      split at e
      · rename_i q2
        have q3 : nmB w.dropLast ∧ (m.re vs).inside = true ∧ (m.re vs).lab.find? (fun l => l.1 == w.dropLast) = none := q2
        rw [if_pos q3]
        cases e
        exact ⟨vs, hv, rfl⟩
      · cases e
    · rename_i q
      rw [if_neg q]
      split at e
      · rename_i q
        rw [if_pos q]
        unfold MkF.globals at e ⊢
        split at e
        · rename_i n hn
          try simp only [hn]
          split at e
          · cases e
          · rename_i q2
            have q3 : ¬ (m.re vs).began = true := q2
            rw [if_neg q3]
            cases e
            exact ⟨vs, hv, rfl⟩
        · cases e
      · rename_i q
        rw [if_neg q]
        split at e
        · rename_i q
          have q3 : w = byS "text" ∧ (m.re vs).inside = false := q
          rw [if_pos q3]
          unfold MkF.text at e ⊢
          split at e
          · split at e
            · cases e
            · rename_i q2
              have q4 : ¬ (m.re vs).inside = true := q2
              try simp only
              rw [if_neg q4]
              obtain ⟨b, hb2, e3⟩ := Option.map_eq_some_iff.mp e
              rw [hb2]
              cases e3
              exact ⟨vs, hv, rfl⟩
          · cases e
        · rename_i q
          have q3 : ¬ (w = byS "text" ∧ (m.re vs).inside = false) := q
          rw [if_neg q3]
          split at e
          · rename_i q
            rw [if_pos q]
            unfold MkF.func at e ⊢
            split at e
            · rename_i a b c hn
              try simp only [hn]
              cases e
              have hb2 : m.ends.bad = 0 := hb
              rw [ends_re m vs hp hv hb2]
              exact ⟨_, rfl, rfl⟩
            · cases e
          · rename_i q
            rw [if_neg q]
            unfold MkF.ins at e ⊢
            split at e
            · cases e
            · rename_i q2
              have q4 : ¬ (opF w = 0 ∨ (m.re vs).inside = false) := q2
              rw [if_neg q4]
              split at e
              · rename_i q5
                rw [if_pos q5]
                split at e
                · rename_i s
                  try simp only
                  split at e
                  · rename_i a ha
                    try simp only [ha]
                    cases e
                    exact ⟨vs, hv, rfl⟩
                  · rename_i nm ha
                    try simp only [ha]
                    cases e
                    refine ⟨vs ++ [(lenI m.fn, j, nm)], ?_, rfl⟩
                    unfold unl at hv ⊢
                    simp only [List.map_append, hv]
                    rfl
                  · cases e
                · cases e
              · rename_i q5
                rw [if_neg q5]
                split at e
                · rename_i q6
                  rw [if_pos q6]
                  cases e
                  exact ⟨vs, hv, rfl⟩
                · cases e
end Go.Proofs.YtcnjlbjpeklgkaaGreatDoor
namespace Go.Proofs.YtcnjlbjpeklgkaaGreatDoor
set_option linter.unusedVariables false
set_option linter.unusedSimpArgs false

theorem pos_ends (m : MkF) : Pos m.ends.use := by
  intro u hu
  unfold MkF.ends at hu
  simp at hu
theorem ends_mono (m : MkF) (hp : Pos m.use) (h : m.bad ≠ 0) : m.ends.bad ≠ 0 := uses_mono m.use hp m h
theorem words_mono (pl : Int → Bool) (m m1 : MkF) (i : Nat) (hi : 0 < i) (ws : List (List Int)) (hp : Pos m.use) (e : m.words pl i ws = some m1) : Pos m1.use ∧ (m.bad ≠ 0 → m1.bad ≠ 0) := by
  unfold MkF.words at e
  split at e
  · cases e; exact ⟨hp, id⟩
  · split at e
    · unfold MkF.mark at e
      split at e
      · cases e; exact ⟨hp, id⟩
      · cases e
    · split at e
      · unfold MkF.globals at e
        split at e
        · split at e
          · cases e
          · cases e; exact ⟨hp, id⟩
        · cases e
      · split at e
        · unfold MkF.text at e
          split at e
          · split at e
            · cases e
            · obtain ⟨b, _, e3⟩ := Option.map_eq_some_iff.mp e
              cases e3; exact ⟨hp, id⟩
          · cases e
        · split at e
          · unfold MkF.func at e
            split at e
            · cases e
              exact ⟨pos_ends m, ends_mono m hp⟩
            · cases e
          · unfold MkF.ins at e
            split at e
            · cases e
            · split at e
              · split at e
                · split at e
                  · cases e; exact ⟨hp, id⟩
                  · cases e
                    refine ⟨fun u hu => ?_, id⟩
                    rcases List.mem_append.mp hu with q | q
                    · exact hp u q
                    · have := List.mem_singleton.mp q
                      subst this
                      exact hi
                  · cases e
                · cases e
              · split at e
                · cases e; exact ⟨hp, id⟩
                · cases e
theorem line_mono (pl : Int → Bool) (m : MkF) (i : Nat) (hi : 0 < i) (s : List Int) (hp : Pos m.use) : Pos (m.line pl i s).use ∧ (m.bad ≠ 0 → (m.line pl i s).bad ≠ 0) := by
  unfold MkF.line
  split
  · rename_i m' e
    obtain ⟨ws, _, e2⟩ := Option.bind_eq_some_iff.mp e
    exact words_mono pl m m' i hi ws hp e2
  · refine ⟨?_, wrong_mono m i hi⟩
    unfold MkF.wrong
    split <;> exact hp
theorem run_mono (pl : Int → Bool) (ls : List (List Int)) : ∀ (m : MkF) (i : Nat), 0 < i → Pos m.use → Pos (m.run pl i ls).use ∧ (m.bad ≠ 0 → (m.run pl i ls).bad ≠ 0) := by
  induction ls with
  | nil => intro m i _ hp; exact ⟨hp, id⟩
  | cons s ls ih =>
    intro m i hi hp
    obtain ⟨h1, h2⟩ := line_mono pl m i hi s hp
    obtain ⟨h3, h4⟩ := ih (m.line pl i s) (i + 1) (by omega) h1
    exact ⟨h3, fun h => h4 (h2 h)⟩
/-- the second list is the first, each line dressed, with empty ones between them -/
inductive Dress : List (List Int) → List (List Int) → Prop where
  | nil : Dress [] []
  | gap {s : List Int} {l r : List (List Int)} : wsF s = some [] → Dress l r → Dress l (s :: r)
  | line {s t : List Int} {l r : List (List Int)} : wsF t = wsF s → Dress l r → Dress (s :: l) (t :: r)
theorem dress_run (pl : Int → Bool) {l r : List (List Int)} (h : Dress l r) : ∀ (m : MkF) (vs : List (Nat × Nat × List Int)) (i j : Nat), 0 < i → 0 < j → Pos m.use → unl vs = unl m.use → (m.run pl i l).ends.bad = 0 →
    ((m.re vs).run pl j r).ends = (m.run pl i l).ends := by
  induction h with
  | nil => intro m vs i j hi hj hp hv hb; exact ends_re m vs hp hv hb
  | gap hs _ ih =>
    intro m vs i j hi hj hp hv hb
    simp only [MkF.run]
    rw [line_empty pl _ j _ hs]
    exact ih m vs i (j + 1) hi (by omega) hp hv hb
  | @line s t l r hs _ ih =>
    intro m vs i j hi hj hp hv hb
    simp only [MkF.run] at hb ⊢
    obtain ⟨p1, p2⟩ := line_mono pl m i hi s hp
    obtain ⟨p3, p4⟩ := run_mono pl l (m.line pl i s) (i + 1) (by omega) p1
    have b1 : (m.line pl i s).bad = 0 := by
      apply Classical.byContradiction
      intro hne
      exact ends_mono _ p3 (p4 hne) hb
    have e : ∃ vs1, unl vs1 = unl (m.line pl i s).use ∧ (m.re vs).line pl j t = (m.line pl i s).re vs1 := by
      cases ew : wsF s with
      | none =>
        have : m.line pl i s = m.wrong i := by unfold MkF.line; rw [ew]; rfl
        rw [this] at b1
        exact absurd b1 (wrong_badP m i hi)
      | some ws =>
        cases em : m.words pl i ws with
        | none =>
          have : m.line pl i s = m.wrong i := by unfold MkF.line; rw [ew, Option.bind_some, em]
          rw [this] at b1
          exact absurd b1 (wrong_badP m i hi)
        | some m1 =>
          have e1 : m.line pl i s = m1 := by unfold MkF.line; rw [ew, Option.bind_some, em]
          rw [e1] at b1 ⊢
          obtain ⟨vs1, hv1, e2⟩ := words_re pl m m1 vs i j ws hp hv em b1
          refine ⟨vs1, hv1, ?_⟩
          unfold MkF.line
          rw [hs, ew, Option.bind_some, e2]
    obtain ⟨vs1, hv1, e1⟩ := e
    rw [e1]
    exact ih _ vs1 (i + 1) (j + 1) (by omega) (by omega) p1 hv1 hb
/-- a dressed text is assembled as the program that its lines say -/
theorem dress_asm (pl : Int → Bool) (wr : PrF → Int) (p : PrF) (t : List Int) (l : List (List Int)) (h : Dress l (lnsF t)) (bg ins : Bool) (hl : (MkF.run pl MkF.zero 1 l).ends = ⟨p.1, p.2.1, p.2.2, bg, ins, [], [], 0⟩) (h1 : t.length ≤ 1048576) (h2 : (lnsF t).length ≤ 100000) (hw : wr p = 0) : asmF pl wr t = (p, 0, 0) := by
  have e := dress_run pl h MkF.zero [] 1 1 (by omega) (by omega) (fun u hu => by simp [MkF.zero] at hu) rfl (by rw [hl])
  have e0 : MkF.zero.re [] = MkF.zero := rfl
  rw [e0, hl] at e
  have e3 : MkF.prog ⟨p.1, p.2.1, p.2.2, bg, ins, [], [], 0⟩ = p := rfl
  unfold asmF
  rw [e, if_neg (by omega), if_neg (by simp), e3, if_neg (by simp [hw])]
end Go.Proofs.YtcnjlbjpeklgkaaGreatDoor
namespace Go.Proofs.YtcnjlbjpeklgkaaGreatDoor
set_option linter.unusedVariables false
set_option linter.unusedSimpArgs false

theorem say_utf (c : Int) (h0 : 0 ≤ c) (h1 : c ≤ 1114111) : sayF (utfF c) = c := by
  unfold utfF
  split
  · rfl
  · split
    · simp only [sayF]; omega
    · split
      · simp only [sayF]; omega
      · simp only [sayF]; omega
theorem utf_len (c : Int) : utfF c ≠ [] ∧ (utfF c).length ≤ 4 := by
  unfold utfF
  repeat' split
  all_goals simp
theorem sca_utf (c : Int) (h0 : 0 ≤ c) (h1 : c ≤ 1114111) (h2 : ¬ (55296 ≤ c ∧ c ≤ 57343)) : scaF (utfF c) = some c := by
  unfold scaF
  rw [say_utf c h0 h1, if_neg]
  have := utf_len c
  rintro (h | h | h | h | h)
  · exact this.1 h
  · omega
  · omega
  · exact h2 h
  · exact h rfl
theorem utf_high (c : Int) (h0 : 128 ≤ c) (h1 : c ≤ 1114111) : ∀ x ∈ utfF c, 128 ≤ x ∧ x ≤ 255 := by
  unfold utfF
  rw [if_neg (by omega)]
  split
  · intro x hx; simp at hx; omega
  · split
    · intro x hx; simp at hx; omega
    · intro x hx; simp at hx; omega
theorem unq_self (l : List Int) (h : ∀ x ∈ l, x ≠ 92) : unqF l = some l := by
  induction l with
  | nil => rw [unqF.eq_def]
  | cons x l ih =>
    rw [unq_one x l (h x (by simp)), ih (fun y hy => h y (by simp [hy]))]
    rfl
theorem ws_run (q : Int) (l : List Int) (h : ∀ x ∈ l, x ≠ q ∧ x ≠ 92) : ∀ w r, wsA (.quo q w) (l ++ r) = wsA (.quo q (w ++ l)) r := by
  induction l with
  | nil => intro w r; simp
  | cons x l ih =>
    intro w r
    have hx := h x (by simp)
    simp only [List.cons_append, wsA]
    rw [if_neg hx.1, if_neg hx.2, ih (fun y hy => h y (by simp [hy]))]
    simp
theorem ws_charU (l : List Int) (h : ∀ x ∈ l, x ≠ 39 ∧ x ≠ 92) : wsF (39 :: (l ++ [39])) = some [39 :: (l ++ [39])] := by
  unfold wsF
  simp only [wsA]
  rw [if_neg (by decide), if_neg (by decide), if_pos (by decide), ws_run 39 l h]
  simp [wsA]
theorem quo_charU (l : List Int) (h : ∀ x ∈ l, x ≠ 39 ∧ x ≠ 92) : quoF (39 :: (l ++ [39])) 39 = some l := by
  have e : (39 :: (l ++ [39]) : List Int) = 39 :: l ++ [39] := rfl
  rw [e, quo_in, unq_self l (fun x hx => (h x hx).2)]
/-- how AsmQuotes writes a scalar: as itself, but these three -/
def chQ (x : Int) : List Int := if x = 10 then [92, 110] else if x = 39 then [92, 39] else if x = 92 then [92, 92] else utfF x
theorem ws_chQ (x : Int) (h0 : 0 ≤ x) (h1 : x ≤ 1114111) : wsF (39 :: (chQ x ++ [39])) = some [39 :: (chQ x ++ [39])] := by
  unfold chQ
  split
  · decide +kernel
  · split
    · decide +kernel
    · split
      · decide +kernel
      · rename_i a b c
        apply ws_charU
        intro y hy
        by_cases h : x < 128
        · have e : utfF x = [x] := by unfold utfF; rw [if_pos h]
          rw [e] at hy
          have := List.mem_singleton.mp hy
          omega
        · have := utf_high x (by omega) h1 y hy
          omega
theorem opn_chQ (x : Int) (h0 : 0 ≤ x) (h1 : x ≤ 1114111) (h2 : ¬ (55296 ≤ x ∧ x ≤ 57343)) : opnF 2 (39 :: (chQ x ++ [39])) = some (.inl x) := by
  have hq : (quoF (39 :: (chQ x ++ [39])) 39).bind scaF = some x := by
    unfold chQ
    split
    · rename_i h; subst h; decide +kernel
    · split
      · rename_i h; subst h; decide +kernel
      · split
        · rename_i h; subst h; decide +kernel
        · rename_i a b c
          rw [quo_charU, Option.bind_some, sca_utf x h0 h1 h2]
          intro y hy
          by_cases h : x < 128
          · have e : utfF x = [x] := by unfold utfF; rw [if_pos h]
            rw [e] at hy
            have := List.mem_singleton.mp hy
            omega
          · have := utf_high x (by omega) h1 y hy
            omega
  unfold opnF
  rw [if_neg (by decide), if_pos rfl, dec_no (by omega)]
  simp only [hq]
  rfl
/-- a way to spell bytes in a text's quote -/
structure Sp (sp : Int → List Int) : Prop where
  qu : ∀ x, 0 ≤ x → x ≤ 255 → ∀ w q, wsA (.quo 34 w) (sp x ++ q) = wsA (.quo 34 (w ++ sp x)) q
  un : ∀ x, 0 ≤ x → x ≤ 255 → ∀ r, unqF (sp x ++ r) = (unqF r).map (x :: ·)
  no : ∀ x, 0 ≤ x → x ≤ 255 → (10 : Int) ∉ sp x
def rawB (x : Int) : List Int := if x = 10 then [92, 110] else if x = 34 ∨ x = 92 then [92, x] else [x]
def hexB (x : Int) : List Int := [92, 120, hx1 (x / 16), hx1 (x % 16)]
theorem sp_raw : Sp rawB := by
  refine ⟨fun x h0 h1 w q => ?_, fun x h0 h1 r => ?_, fun x h0 h1 => ?_⟩
  · unfold rawB
    split
    · simp [wsA]
    · split
      · simp [wsA]
      · rename_i a b
        simp only [List.cons_append, List.nil_append, wsA]
        rw [if_neg (by omega), if_neg (by omega)]
  · unfold rawB
    split
    · rename_i h; subst h; exact unq_n r
    · split
      · exact unq_esc x r (by omega)
      · exact unq_one x r (by omega)
  · unfold rawB
    split
    · simp
    · split
      · simp; omega
      · simp; omega
theorem hx1_rng (n : Int) (h0 : 0 ≤ n) (h1 : n < 16) : 48 ≤ hx1 n ∧ hx1 n ≤ 102 ∧ hx1 n ≠ 92 := by
  unfold hx1
  split <;> omega
theorem sp_hex : Sp hexB := by
  refine ⟨fun x h0 h1 w q => ?_, fun x h0 h1 r => ?_, fun x h0 h1 => ?_⟩
  · have a := hx1_rng (x / 16) (by omega) (by omega)
    have b := hx1_rng (x % 16) (by omega) (by omega)
    unfold hexB
    simp only [List.cons_append, List.nil_append, wsA]
    rw [if_neg (by omega), if_pos trivial, if_neg (by omega), if_neg (by omega), if_neg (by omega), if_neg (by omega)]
    simp
  · have e : 16 * (x / 16) + x % 16 = x := by omega
    have a := unq_x _ _ _ _ r (hx_hx (x / 16) (by omega) (by omega)) (hx_hx (x % 16) (by omega) (by omega))
    rw [e] at a
    exact a
  · have a := hx1_rng (x / 16) (by omega) (by omega)
    have b := hx1_rng (x % 16) (by omega) (by omega)
    unfold hexB
    simp
    omega
theorem sp_quote {sp : Int → List Int} (hs : Sp sp) (b : List Int) (h : ∀ x ∈ b, 0 ≤ x ∧ x ≤ 255) : ∀ (w r : List Int), wsA (.quo 34 w) (b.flatMap sp ++ r) = wsA (.quo 34 (w ++ b.flatMap sp)) r := by
  induction b with
  | nil => intro w r; simp
  | cons x b ih =>
    intro w r
    have hx := h x (by simp)
    rw [List.flatMap_cons, List.append_assoc, hs.qu x hx.1 hx.2, ih (fun y hy => h y (by simp [hy]))]
    simp
theorem sp_ws {sp : Int → List Int} (hs : Sp sp) (b : List Int) (h : ∀ x ∈ b, 0 ≤ x ∧ x ≤ 255) : wsF (34 :: (b.flatMap sp ++ [34])) = some [34 :: (b.flatMap sp ++ [34])] := by
  unfold wsF
  simp only [wsA]
  rw [if_neg (by decide), if_neg (by decide), if_pos (by decide), sp_quote hs b h]
  simp [wsA]
theorem sp_unq {sp : Int → List Int} (hs : Sp sp) (b : List Int) (h : ∀ x ∈ b, 0 ≤ x ∧ x ≤ 255) : unqF (b.flatMap sp) = some b := by
  induction b with
  | nil => rw [List.flatMap_nil, unqF.eq_def]
  | cons x b ih =>
    have hx := h x (by simp)
    rw [List.flatMap_cons, hs.un x hx.1 hx.2, ih (fun y hy => h y (by simp [hy]))]
    rfl
theorem sp_quo {sp : Int → List Int} (hs : Sp sp) (b : List Int) (h : ∀ x ∈ b, 0 ≤ x ∧ x ≤ 255) : quoF (34 :: (b.flatMap sp ++ [34])) 34 = some b := by
  have e : (34 :: (b.flatMap sp ++ [34]) : List Int) = 34 :: b.flatMap sp ++ [34] := rfl
  rw [e, quo_in, sp_unq hs b h]
theorem sp_no {sp : Int → List Int} (hs : Sp sp) (b : List Int) (h : ∀ x ∈ b, 0 ≤ x ∧ x ≤ 255) : (10 : Int) ∉ b.flatMap sp := by
  intro hm
  obtain ⟨x, hx, h1⟩ := List.mem_flatMap.mp hm
  exact hs.no x (h x hx).1 (h x hx).2 h1
/-- a text's line, however it is spelt -/
theorem sp_step {sp : Int → List Int} (hs : Sp sp) (b : List Int) (h : ∀ x ∈ b, 0 ≤ x ∧ x ≤ 255) (g : Int) (tx : List (List Int)) (bg : Bool) (line : Nat) : MkF.line plO ⟨g, tx, [], bg, false, [], [], 0⟩ line (byS "text \"" ++ b.flatMap sp ++ [34]) = ⟨g, tx ++ [b], [], true, false, [], [], 0⟩ := by
  have e : byS "text \"" ++ b.flatMap sp ++ [34] = byS "text" ++ 32 :: (34 :: (b.flatMap sp ++ [34])) := by
    have : byS "text \"" = byS "text" ++ [32, 34] := by decide +kernel
    rw [this]; simp
  have n1 : byS "text" ≠ byS "globals" := by decide +kernel
  unfold MkF.line
  rw [e, wd_text.then, sp_ws hs b h]
  simp only [Option.map_some, Option.bind_some, MkF.words]
  rw [if_neg (by simp), if_neg n1, if_pos ⟨trivial, trivial⟩]
  unfold MkF.text
  simp only [sp_quo hs b h]
  simp
end Go.Proofs.YtcnjlbjpeklgkaaGreatDoor
