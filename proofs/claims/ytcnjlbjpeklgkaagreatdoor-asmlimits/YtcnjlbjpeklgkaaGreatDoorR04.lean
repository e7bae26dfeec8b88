import Derived.Test.YtcnjlbjpeklgkaaGreatDoorR03
namespace Go.Proofs.YtcnjlbjpeklgkaaGreatDoor
set_option linter.unusedVariables false
set_option linter.unusedSimpArgs false

theorem ws_blank {c : Int} {r : List Int} (h : c = 32 ∨ c = 9) : wsA .gap (c :: r) = wsA .gap r := by
  rcases h with rfl | rfl <;> rfl
theorem ws_semi {r : List Int} : wsA .gap (59 :: r) = some [] := rfl
theorem ws_quo {q : Int} {r : List Int} (h : q = 34 ∨ q = 39) : wsA .gap (q :: r) = wsA (.quo q [q]) r := by
  rcases h with rfl | rfl <;> rfl
theorem bl_not {c : Int} (h1 : c ≠ 32) (h2 : c ≠ 9) : blB c = false := by unfold blB; simp [h1, h2]
theorem ws_beg {c : Int} {r : List Int} (h1 : c ≠ 32) (h2 : c ≠ 9) (h3 : c ≠ 59) (h4 : c ≠ 34) (h5 : c ≠ 39) : wsA .gap (c :: r) = wsA (.word [c]) r := by
  rw [wsA, if_neg (by rw [bl_not h1 h2]; simp), if_neg h3, if_neg (by rintro (h | h); exact h4 h; exact h5 h)]
theorem ws_on {w : List Int} {c : Int} {r : List Int} (h1 : c ≠ 32) (h2 : c ≠ 9) (h3 : c ≠ 59) : wsA (.word w) (c :: r) = wsA (.word (w ++ [c])) r := by
  rw [wsA, if_neg (by rw [bl_not h1 h2]; simp), if_neg h3]
theorem ws_end {w : List Int} {c : Int} {r : List Int} (h : c = 32 ∨ c = 9 ∨ c = 59) : wsA (.word w) (c :: r) = (wsA .gap (c :: r)).map (w :: ·) := by
  rcases h with rfl | rfl | rfl <;> rfl
theorem ws_qon {q : Int} {w : List Int} {c : Int} {r : List Int} (h1 : c ≠ q) (h2 : c ≠ 92) : wsA (.quo q w) (c :: r) = wsA (.quo q (w ++ [c])) r := by
  rw [wsA, if_neg h1, if_neg h2]
theorem ws_qesc {q : Int} {w : List Int} {r : List Int} (h1 : q ≠ 92) : wsA (.quo q w) (92 :: r) = wsA (.esc q (w ++ [92])) r := by
  rw [wsA, if_neg (fun e => h1 e.symm), if_pos rfl]
theorem ws_qshut {q : Int} {w : List Int} {r : List Int} : wsA (.quo q w) (q :: r) = wsA (.shut (w ++ [q])) r := by
  rw [wsA, if_pos rfl]
theorem ws_shut_gap {w : List Int} {l : List Int} (h : l = [] ∨ ∃ c r, l = c :: r ∧ (c = 32 ∨ c = 9 ∨ c = 59)) : wsA (.shut w) l = (wsA .gap l).map (w :: ·) := by
  rcases h with rfl | ⟨c, r, rfl, rfl | rfl | rfl⟩ <;> rfl
theorem ws_shut_no {w : List Int} {c : Int} {r : List Int} (h1 : c ≠ 32) (h2 : c ≠ 9) (h3 : c ≠ 59) : wsA (.shut w) (c :: r) = none := by
  rw [wsA, if_neg (by rw [bl_not h1 h2]; simp), if_neg h3]

theorem td_at {t : List Int} {i : Nat} {c : Int} (h : t[i]? = some c) : t.drop i = c :: t.drop (i + 1) ∧ t.take (i + 1) = t.take i ++ [c] := by
  constructor
  · have hl := (List.getElem?_eq_some_iff.1 h).1
    rw [List.drop_eq_getElem_cons hl, (List.getElem?_eq_some_iff.1 h).2]
  · rw [List.take_add_one, h]; rfl
/-- bytes of a word -/
theorem ws_words {t : List Int} {i : Nat} : ∀ (wd : Nat), (∀ k, k < wd → ∃ c, t[i + k]? = some c ∧ c ≠ 32 ∧ c ≠ 9 ∧ c ≠ 59) → wsA (.word (t.take i)) (t.drop i) = wsA (.word (t.take (i + wd))) (t.drop (i + wd))
  | 0, _ => rfl
  | wd + 1, h => by
    rw [ws_words wd (fun k hk => h k (by omega))]
    obtain ⟨c, hc, h1, h2, h3⟩ := h wd (by omega)
    obtain ⟨e1, e2⟩ := td_at hc
    rw [e1, ws_on h1 h2 h3, ← e2]
    rfl
/-- bytes of a quote -/
theorem ws_quotes {q : Int} {t : List Int} {i : Nat} : ∀ (wd : Nat), (∀ k, k < wd → ∃ c, t[i + k]? = some c ∧ c ≠ q ∧ c ≠ 92) → wsA (.quo q (q :: t.take i)) (t.drop i) = wsA (.quo q (q :: t.take (i + wd))) (t.drop (i + wd))
  | 0, _ => rfl
  | wd + 1, h => by
    rw [ws_quotes wd (fun k hk => h k (by omega))]
    obtain ⟨c, hc, h1, h2⟩ := h wd (by omega)
    obtain ⟨e1, e2⟩ := td_at hc
    rw [e1, ws_qon h1 h2, List.cons_append, ← e2]
    rfl
theorem ws_escape {q : Int} {t : List Int} {i : Nat} {c : Int} (h : t[i]? = some c) : wsA (.esc q (q :: t.take i)) (t.drop i) = wsA (.quo q (q :: t.take (i + 1))) (t.drop (i + 1)) := by
  obtain ⟨e1, e2⟩ := td_at h
  rw [e1, wsA, List.cons_append, ← e2]

/-- what a rune says of the bytes that it is read from -/
def RuneAt (t : List Int) (i : Nat) (r : Nat) (wd : Nat) : Prop :=
  (r < 128 ∧ wd = 1 ∧ t[i]? = some (r : Int)) ∨ (128 ≤ r ∧ 1 ≤ wd ∧ i + wd ≤ t.length ∧ ∀ k, k < wd → ∃ c, t[i + k]? = some c ∧ 128 ≤ c)
theorem RuneAt.pos {t : List Int} {i r wd : Nat} (h : RuneAt t i r wd) : 1 ≤ wd ∧ i + wd ≤ t.length := by
  rcases h with ⟨_, rfl, h⟩ | ⟨_, h1, h2, _⟩
  · have := (List.getElem?_eq_some_iff.1 h).1
    omega
  · exact ⟨h1, h2⟩
/-- each byte of it is the rune itself, or none below 128 -/
theorem RuneAt.bytes {t : List Int} {i r wd : Nat} (h : RuneAt t i r wd) : ∀ k, k < wd → ∃ c, t[i + k]? = some c ∧ (c = (r : Int) ∨ (128 ≤ c ∧ 128 ≤ r)) := by
  intro k hk
  rcases h with ⟨_, rfl, h⟩ | ⟨h0, h1, h2, h3⟩
  · obtain rfl : k = 0 := by omega
    exact ⟨_, h, .inl rfl⟩
  · obtain ⟨c, hc, h4⟩ := h3 k hk
    exact ⟨c, hc, .inr ⟨h4, h0⟩⟩
theorem RuneAt.one {t : List Int} {i r wd : Nat} (h : RuneAt t i r wd) (hr : r < 128) : wd = 1 ∧ t[i]? = some (r : Int) := by
  rcases h with ⟨_, h1, h2⟩ | ⟨h0, _⟩
  · exact ⟨h1, h2⟩
  · omega
theorem RuneAt.word {t : List Int} {i r wd : Nat} (h : RuneAt t i r wd) (h1 : r ≠ 32) (h2 : r ≠ 9) (h3 : r ≠ 59) : wsA (.word (t.take i)) (t.drop i) = wsA (.word (t.take (i + wd))) (t.drop (i + wd)) :=
  ws_words wd fun k hk => by
    obtain ⟨c, hc, h4⟩ := h.bytes k hk
    exact ⟨c, hc, by omega, by omega, by omega⟩
theorem RuneAt.quote {q : Int} {t : List Int} {i r wd : Nat} (h : RuneAt t i r wd) (hq : q < 128) (h1 : (r : Int) ≠ q) (h2 : r ≠ 92) : wsA (.quo q (q :: t.take i)) (t.drop i) = wsA (.quo q (q :: t.take (i + wd))) (t.drop (i + wd)) :=
  ws_quotes wd fun k hk => by
    obtain ⟨c, hc, h4⟩ := h.bytes k hk
    exact ⟨c, hc, by omega, by omega⟩
theorem RuneAt.passed {q : Int} {t : List Int} {i r wd : Nat} (h : RuneAt t i r wd) (hq : q < 128) : wsA (.esc q (q :: t.take i)) (t.drop i) = wsA (.quo q (q :: t.take (i + wd))) (t.drop (i + wd)) := by
  obtain ⟨c, hc, h4⟩ := h.bytes 0 (by have := h.pos; omega)
  rw [Nat.add_zero] at hc
  rw [ws_escape hc]
  rcases h with ⟨_, rfl, _⟩ | ⟨h0, h1, h2, h3⟩
  · rfl
  · have := ws_quotes (q := q) (t := t) (i := i + 1) (wd - 1) fun k hk => by
      obtain ⟨c, hc, h5⟩ := h3 (1 + k) (by omega)
      exact ⟨c, by rw [← hc]; congr 1; omega, by omega, by omega⟩
    rw [this, show i + 1 + (wd - 1) = i + wd from by omega]
/-- between words: blanks alone are ahead of i -/
theorem ws_gaps {t : List Int} {i : Nat} {c : Int} (h : t[i]? = some c) (hb : c = 32 ∨ c = 9) (e : wsA .gap t = wsA .gap (t.drop i)) : wsA .gap t = wsA .gap (t.drop (i + 1)) := by
  rw [e, (td_at h).1, ws_blank hb]
theorem RuneAt.begins {t : List Int} {i r wd : Nat} (h : RuneAt t i r wd) (h1 : r ≠ 32) (h2 : r ≠ 9) (h3 : r ≠ 59) (h4 : r ≠ 34) (h5 : r ≠ 39) : ∃ c l, t.drop i = c :: l ∧ c ≠ 32 ∧ c ≠ 9 ∧ c ≠ 59 ∧ c ≠ 34 ∧ c ≠ 39 := by
  obtain ⟨c, hc, h6⟩ := h.bytes 0 (by have := h.pos; omega)
  rw [Nat.add_zero] at hc
  exact ⟨c, _, (td_at hc).1, by omega, by omega, by omega, by omega, by omega⟩
end Go.Proofs.YtcnjlbjpeklgkaaGreatDoor
namespace Go.Proofs.YtcnjlbjpeklgkaaGreatDoor
set_option linter.unusedVariables false
set_option linter.unusedSimpArgs false

theorem dg_yes {c : Int} (h : 48 ≤ c ∧ c ≤ 57) : dgB c = true := decide_eq_true h
theorem dg_no {c : Int} (h : ¬ (48 ≤ c ∧ c ≤ 57)) : dgB c = false := decide_eq_false h
theorem decA_no {n c : Int} {r : List Int} (h : ¬ (48 ≤ c ∧ c ≤ 57)) : decA n (c :: r) = none := by
  rw [decA, if_neg (by rw [dg_no h]; simp)]
theorem decA_far {n c : Int} {r : List Int} (h : 9223372036854775807 < n * 10 + (c - 48)) : decA n (c :: r) = none := by
  rw [decA, if_neg (by omega)]
theorem decA_on {n c : Int} {r : List Int} (h : 48 ≤ c ∧ c ≤ 57) (h2 : n * 10 + (c - 48) ≤ 9223372036854775807) : decA n (c :: r) = decA (n * 10 + (c - 48)) r := by
  rw [decA, if_pos ⟨dg_yes h, h2⟩]
/-- no digit: no number -/
theorem RuneAt.dec_no {t : List Int} {i r wd : Nat} {n : Int} (h : RuneAt t i r wd) (h1 : ¬ (48 ≤ r ∧ r ≤ 57)) : decA n (t.drop i) = none := by
  obtain ⟨c, hc, h6⟩ := h.bytes 0 (by have := h.pos; omega)
  rw [Nat.add_zero] at hc
  rw [(td_at hc).1]
  exact decA_no (by omega)
theorem RuneAt.dec_far {t : List Int} {i r wd : Nat} {n : Int} (h : RuneAt t i r wd) (h1 : 48 ≤ r ∧ r ≤ 57) (h2 : 9223372036854775807 < n * 10 + ((r : Int) - 48)) : decA n (t.drop i) = none := by
  obtain ⟨_, hc⟩ := h.one (by omega)
  rw [(td_at hc).1]
  exact decA_far h2
theorem RuneAt.dec_on {t : List Int} {i r wd : Nat} {n : Int} (h : RuneAt t i r wd) (h1 : 48 ≤ r ∧ r ≤ 57) (h2 : n * 10 + ((r : Int) - 48) ≤ 9223372036854775807) : wd = 1 ∧ decA n (t.drop i) = decA (n * 10 + ((r : Int) - 48)) (t.drop (i + 1)) := by
  obtain ⟨h0, hc⟩ := h.one (by omega)
  refine ⟨h0, ?_⟩
  rw [(td_at hc).1]
  exact decA_on (by omega) h2

/-- what a rune says as a digit of a hexadecimal number -/
def hxR (r : Nat) : Int := if 48 ≤ r ∧ r ≤ 57 then (r : Int) - 48 else if 97 ≤ r ∧ r ≤ 102 then (r : Int) - 87 else -1
theorem hxR_rng (r : Nat) : -1 ≤ hxR r ∧ hxR r ≤ 15 := by
  unfold hxR
  split
  · omega
  · split <;> omega
theorem hxF_of {c : Int} : hxF c = if 48 ≤ c ∧ c ≤ 57 then some (c - 48) else if 97 ≤ c ∧ c ≤ 102 then some (c - 87) else none := by
  unfold hxF dgB
  by_cases h : 48 ≤ c ∧ c ≤ 57
  · rw [if_pos (decide_eq_true h), if_pos h]
  · rw [if_neg (by simpa using h), if_neg h]
theorem RuneAt.hx_no {t : List Int} {i r wd : Nat} {n : Int} (h : RuneAt t i r wd) (h1 : hxR r < 0) : fl16 n (t.drop i) = none := by
  obtain ⟨c, hc, h6⟩ := h.bytes 0 (by have := h.pos; omega)
  rw [Nat.add_zero] at hc
  rw [(td_at hc).1, fl16, hxF_of]
  have h7 : ¬ (48 ≤ c ∧ c ≤ 57) := by
    intro q
    have : (48 ≤ r ∧ r ≤ 57) := by omega
    unfold hxR at h1
    rw [if_pos this] at h1
    omega
  have h8 : ¬ (97 ≤ c ∧ c ≤ 102) := by
    intro q
    have h9 : ¬ (48 ≤ r ∧ r ≤ 57) := by omega
    have : (97 ≤ r ∧ r ≤ 102) := by omega
    unfold hxR at h1
    rw [if_neg h9, if_pos this] at h1
    omega
  rw [if_neg h7, if_neg h8]
theorem RuneAt.hx_on {t : List Int} {i r wd : Nat} {n : Int} (h : RuneAt t i r wd) (h1 : 0 ≤ hxR r) : wd = 1 ∧ fl16 n (t.drop i) = fl16 (n * 16 + hxR r) (t.drop (i + 1)) := by
  have hr : r < 128 := by
    unfold hxR at h1
    split at h1
    · omega
    · split at h1
      · omega
      · omega
  obtain ⟨h0, hc⟩ := h.one hr
  refine ⟨h0, ?_⟩
  rw [(td_at hc).1, fl16, hxF_of]
  unfold hxR at h1 ⊢
  by_cases h7 : 48 ≤ r ∧ r ≤ 57
  · rw [if_pos (by omega), if_pos h7]
  · rw [if_neg (by omega)]
    rw [if_neg h7] at h1 ⊢
    by_cases h8 : 97 ≤ r ∧ r ≤ 102
    · rw [if_pos (by omega), if_pos h8]
    · rw [if_neg h8] at h1
      omega

/-- a name, from a rune of it on -/
def ngB (d : Int) : Bool := ltB d || dgB d
def ltR (r : Nat) : Bool := decide ((65 ≤ r ∧ r ≤ 90) ∨ (97 ≤ r ∧ r ≤ 122) ∨ r = 95)
def dgR (r : Nat) : Bool := decide (48 ≤ r ∧ r ≤ 57)
/-- what is left to be seen of a name behind i bytes of it -/
def NmAt (t : List Int) (i : Nat) : Prop := i = 0 ∨ nmB t = (t.drop i).all ngB
theorem NmAt.zero (t : List Int) : NmAt t 0 := .inl rfl
theorem NmAt.end_ {t : List Int} {i : Nat} (h : NmAt t i) (hi : t.length ≤ i) : nmB t = decide (t ≠ []) := by
  rcases h with rfl | h
  · have : t = [] := List.eq_nil_of_length_eq_zero (by omega)
    subst this
    rfl
  · rw [h, List.drop_eq_nil_of_le hi]
    cases t with
    | nil => exact absurd h (by unfold nmB; simp)
    | cons c r => simp
theorem RuneAt.nm_no {t : List Int} {i r wd : Nat} (h : RuneAt t i r wd) (hn : NmAt t i) (h1 : ltR r = false) (h2 : i = 0 ∨ dgR r = false) : nmB t = false := by
  obtain ⟨c, hc, h6⟩ := h.bytes 0 (by have := h.pos; omega)
  rw [Nat.add_zero] at hc
  have hl : ltB c = false := by
    unfold ltR at h1
    unfold ltB
    have := of_decide_eq_false h1
    exact decide_eq_false (by omega)
  rcases hn with rfl | hn
  · have e := (td_at hc).1
    rw [List.drop_zero] at e
    rw [e]
    unfold nmB
    simp [hl]
  · rcases h2 with rfl | h2
    · have e := (td_at hc).1
      rw [List.drop_zero] at e
      rw [e]
      unfold nmB
      simp [hl]
    · have hd : dgB c = false := by
        unfold dgR at h2
        have := of_decide_eq_false h2
        exact dg_no (by omega)
      rw [hn, (td_at hc).1]
      simp [ngB, hl, hd]
theorem RuneAt.nm_on {t : List Int} {i r wd : Nat} (h : RuneAt t i r wd) (hn : NmAt t i) (h1 : ltR r = true ∨ (i ≠ 0 ∧ dgR r = true)) : NmAt t (i + wd) := by
  have hr : r < 128 := by
    rcases h1 with h1 | ⟨_, h1⟩
    · have := of_decide_eq_true h1; omega
    · have := of_decide_eq_true h1; omega
  obtain ⟨rfl, hc⟩ := h.one hr
  have hg : ngB (r : Int) = true := by
    unfold ngB
    rcases h1 with h1 | ⟨_, h1⟩
    · have := of_decide_eq_true h1
      rw [show ltB (r : Int) = true from decide_eq_true (by omega)]; rfl
    · have := of_decide_eq_true h1
      rw [show dgB (r : Int) = true from decide_eq_true (by omega)]; simp
  right
  rcases hn with rfl | hn
  · rcases h1 with h1 | ⟨q, _⟩
    · have e := (td_at hc).1
      rw [List.drop_zero] at e
      rw [Nat.zero_add]
      conv => lhs; rw [e]
      have := of_decide_eq_true h1
      have hb : ltB (r : Int) = true := decide_eq_true (by omega)
      show (ltB (r : Int) && (t.drop 1).all ngB) = _
      rw [hb, Bool.true_and]
    · exact absurd rfl q
  · rw [hn, (td_at hc).1]
    simp [hg]

/-- bytes up to a `\` say themselves -/
theorem unq_plain : ∀ (a r : List Int), (92 : Int) ∉ a → unqF (a ++ r) = (unqF r).map (a ++ ·)
  | [], r, _ => by cases h : unqF r <;> simp [h]
  | c :: a, r, h => by
    have hc : c ≠ 92 := fun e => h (by simp [e])
    rw [List.cons_append, unqF.eq_def]
    simp only
    rw [if_pos hc, unq_plain a r (fun q => h (by simp [q])), Option.map_map]
    rfl
theorem unq_all (a : List Int) (h : (92 : Int) ∉ a) : unqF a = some a := by
  have := unq_plain a [] h
  rw [List.append_nil, unqF] at this
  simpa using this
/-- what is behind a `\` : the byte that it says, and what comes behind it -/
def escF : List Int → Option (Int × List Int)
  | [] => none
  | d :: r => if d = 92 ∨ d = 34 ∨ d = 39 then some (d, r) else if d = 110 then some (10, r) else if d = 116 then some (9, r)
    else if d = 120 then match r with
      | a :: b :: r => match hxF a, hxF b with
        | some x, some y => some (16 * x + y, r)
        | _, _ => none
      | _ => none
    else none
theorem unq_esc2 (l : List Int) : unqF (92 :: l) = (escF l).bind (fun p => (unqF p.2).map (p.1 :: ·)) := by
  rw [unqF.eq_def]
  simp only [ne_eq, not_true_eq_false, if_false]
  cases l with
  | nil => rfl
  | cons d r =>
    simp only [escF]
    by_cases h1 : d = 92 ∨ d = 34 ∨ d = 39
    · simp only [if_pos h1]; rfl
    · simp only [if_neg h1]
      by_cases h2 : d = 110
      · simp only [if_pos h2]; rfl
      · simp only [if_neg h2]
        by_cases h3 : d = 116
        · simp only [if_pos h3]; rfl
        · simp only [if_neg h3]
          by_cases h4 : d = 120
          · simp only [if_pos h4]
            match r with
            | [] => rfl
            | [a] => rfl
            | a :: b :: r =>
              simp only
              cases hxF a with
              | none => rfl
              | some x => cases hxF b with
                | none => rfl
                | some y => rfl
          · simp only [if_neg h4]; rfl
theorem esc_len {l r : List Int} {b : Int} (h : escF l = some (b, r)) : r.length < l.length := by
  cases l with
  | nil => cases h
  | cons d l =>
    simp only [escF] at h
    split at h
    · cases h; simp
    · split at h
      · cases h; simp
      · split at h
        · cases h; simp
        · split at h
          · match l with
            | [] => cases h
            | [_] => cases h
            | a :: b :: l =>
              simp only at h
              cases ha : hxF a with
              | none => rw [ha] at h; cases h
              | some x =>
                rw [ha] at h
                cases hb : hxF b with
                | none => rw [hb] at h; cases h
                | some y => rw [hb] at h; cases h; simp; omega
          · cases h
end Go.Proofs.YtcnjlbjpeklgkaaGreatDoor
namespace Go.Proofs.YtcnjlbjpeklgkaaGreatDoor
set_option linter.unusedVariables false
set_option linter.unusedSimpArgs false

/-- instructions that go to labels met so far lead there -/
def rsv (lab : List (List Int × Int)) (fs : List FnF) (us : List (Nat × Nat × List Int)) : List FnF :=
  us.foldl (fun fs u => match lab.find? (fun l => l.1 == u.2.2) with | some l => setA fs u.1 l.2 | none => fs) fs
/-- the uses of a name that wait for it: line, instruction -/
def pnd (lab : List (List Int × Int)) (us : List (Nat × Nat × List Int)) (n : List Int) : List (Nat × Nat) :=
  if (lab.find? (fun l => l.1 == n)).isSome then [] else (us.filter (fun u => u.2.2 == n)).map (fun u => (u.2.1, u.1))

theorem mod_app {α : Type} (g : α → α) (l r : List α) (i : Nat) (h : i < l.length) : (l ++ r).modify i g = l.modify i g ++ r := by
  apply List.ext_getElem?
  intro k
  rw [List.getElem?_modify, List.getElem?_append, List.getElem?_append, List.length_modify, List.getElem?_modify]
  by_cases hk : k < l.length
  · rw [if_pos hk, if_pos hk]
  · rw [if_neg hk, if_neg hk]
    have : i ≠ k := by omega
    simp [this]
theorem mod_end {α : Type} (g : α → α) (l : List α) (x : α) : (l ++ [x]).modify l.length g = l ++ [g x] := by
  apply List.ext_getElem?
  intro k
  rw [List.getElem?_modify, List.getElem?_append, List.getElem?_append]
  by_cases hk : k < l.length
  · rw [if_pos hk, if_pos hk]
    have : l.length ≠ k := by omega
    simp [this]
  · rw [if_neg hk, if_neg hk]
    by_cases h2 : l.length = k
    · subst h2; simp
    · have : k - l.length ≠ 0 := by omega
      obtain ⟨j, hj⟩ := Nat.exists_eq_succ_of_ne_zero this
      rw [hj]; simp
theorem snoc_ind {α : Type} {P : List α → Prop} (h0 : P []) (h1 : ∀ l a, P l → P (l ++ [a])) (l : List α) : P l := by
  have key : ∀ n (l : List α), l.length = n → P l := by
    intro n
    induction n with
    | zero => intro l hl; rw [List.eq_nil_of_length_eq_zero hl]; exact h0
    | succ n ih =>
      intro l hl
      have hne : l ≠ [] := fun e => by rw [e] at hl; simp at hl
      rw [← List.dropLast_concat_getLast hne]
      exact h1 _ _ (ih _ (by rw [List.length_dropLast]; omega))
  exact key _ l rfl
theorem add_cons (fs : List FnF) (f : FnF) (x : InF) : addI (fs ++ [f]) x = fs ++ [(f.1, f.2.1, f.2.2.1, f.2.2.2 ++ [x])] := by unfold addI; simp
theorem set_cons (fs : List FnF) (f : FnF) (i : Nat) (a : Int) : setA (fs ++ [f]) i a = fs ++ [(f.1, f.2.1, f.2.2.1, f.2.2.2.modify i (fun x => (x.1, a)))] := by unfold setA; simp
theorem len_cons (fs : List FnF) (f : FnF) : lenI (fs ++ [f]) = f.2.2.2.length := by unfold lenI; simp
theorem snoc_of {fs : List FnF} (h : fs ≠ []) : ∃ gs f, fs = gs ++ [f] := ⟨fs.dropLast, fs.getLast h, (List.dropLast_concat_getLast h).symm⟩
theorem set_ne {fs : List FnF} (h : fs ≠ []) (i : Nat) (a : Int) : setA fs i a ≠ [] := by
  obtain ⟨gs, f, rfl⟩ := snoc_of h
  rw [set_cons]; simp
theorem set_len {fs : List FnF} (h : fs ≠ []) (i : Nat) (a : Int) : lenI (setA fs i a) = lenI fs := by
  obtain ⟨gs, f, rfl⟩ := snoc_of h
  rw [set_cons, len_cons, len_cons]; simp
theorem rsv_ne (lab : List (List Int × Int)) : ∀ (us : List (Nat × Nat × List Int)) {fs : List FnF}, fs ≠ [] → rsv lab fs us ≠ [] ∧ lenI (rsv lab fs us) = lenI fs
  | [], fs, h => ⟨h, rfl⟩
  | u :: us, fs, h => by
    unfold rsv
    rw [List.foldl_cons]
    cases e : lab.find? (fun l => l.1 == u.2.2) with
    | none => exact rsv_ne lab us h
    | some l =>
      have := rsv_ne lab us (set_ne h u.1 l.2)
      exact ⟨this.1, this.2.trans (set_len h _ _)⟩
/-- an instruction behind the others -/
theorem set_add {fs : List FnF} (h : fs ≠ []) {i : Nat} (hi : i < lenI fs) (a : Int) (x : InF) : setA (addI fs x) i a = addI (setA fs i a) x := by
  obtain ⟨gs, f, rfl⟩ := snoc_of h
  rw [len_cons] at hi
  rw [add_cons, set_cons, set_cons, add_cons]
  simp only
  rw [mod_app _ _ _ _ hi]
theorem set_last {fs : List FnF} (h : fs ≠ []) (op v a : Int) : setA (addI fs (op, v)) (lenI fs) a = addI fs (op, a) := by
  obtain ⟨gs, f, rfl⟩ := snoc_of h
  rw [len_cons, add_cons, set_cons, add_cons]
  simp only
  rw [mod_end]
theorem rsv_add (lab : List (List Int × Int)) (x : InF) : ∀ (us : List (Nat × Nat × List Int)) {fs : List FnF}, fs ≠ [] → (∀ u ∈ us, u.1 < lenI fs) → rsv lab (addI fs x) us = addI (rsv lab fs us) x
  | [], fs, _, _ => rfl
  | u :: us, fs, h, hu => by
    unfold rsv
    rw [List.foldl_cons, List.foldl_cons]
    cases e : lab.find? (fun l => l.1 == u.2.2) with
    | none => exact rsv_add lab x us h fun v hv => hu v (by simp [hv])
    | some l =>
      simp only
      rw [set_add h (hu u (by simp))]
      exact rsv_add lab x us (set_ne h _ _) fun v hv => by rw [set_len h]; exact hu v (by simp [hv])
theorem rsv_snoc (lab : List (List Int × Int)) (fs : List FnF) (us : List (Nat × Nat × List Int)) (u : Nat × Nat × List Int) :
    rsv lab fs (us ++ [u]) = match lab.find? (fun l => l.1 == u.2.2) with | some l => setA (rsv lab fs us) u.1 l.2 | none => rsv lab fs us := by
  unfold rsv
  rw [List.foldl_append, List.foldl_cons, List.foldl_nil]
/-- a jump to a label that was met -/
theorem rsv_met {lab : List (List Int × Int)} {fs : List FnF} {us : List (Nat × Nat × List Int)} (h : fs ≠ []) (hu : ∀ u ∈ us, u.1 < lenI fs) {op : Int} {line : Nat} {nm : List Int} {l : List Int × Int} (e : lab.find? (fun l => l.1 == nm) = some l) :
    rsv lab (addI fs (op, 0)) (us ++ [(lenI fs, line, nm)]) = addI (rsv lab fs us) (op, l.2) := by
  rw [rsv_snoc]
  simp only
  rw [e]
  simp only
  rw [rsv_add lab _ us h hu, ← (rsv_ne lab us h).2]
  exact set_last (rsv_ne lab us h).1 _ _ _
theorem rsv_new {lab : List (List Int × Int)} {fs : List FnF} {us : List (Nat × Nat × List Int)} (h : fs ≠ []) (hu : ∀ u ∈ us, u.1 < lenI fs) {op : Int} {i line : Nat} {nm : List Int} (e : lab.find? (fun l => l.1 == nm) = none) :
    rsv lab (addI fs (op, 0)) (us ++ [(i, line, nm)]) = addI (rsv lab fs us) (op, 0) := by
  rw [rsv_snoc]
  simp only
  rw [e]
  simp only
  rw [rsv_add lab _ us h hu]
/-- two patches at unlike places -/
theorem set_swap {fs : List FnF} (h : fs ≠ []) {i j : Nat} (hij : i ≠ j) (a b : Int) : setA (setA fs i a) j b = setA (setA fs j b) i a := by
  obtain ⟨gs, f, rfl⟩ := snoc_of h
  rw [set_cons, set_cons, set_cons, set_cons]
  simp only
  have e : (f.2.2.2.modify i fun x => (x.1, a)).modify j (fun x => (x.1, b)) = (f.2.2.2.modify j fun x => (x.1, b)).modify i (fun x => (x.1, a)) := by
   apply List.ext_getElem?
   intro k
   simp only [List.getElem?_modify]
   by_cases h1 : i = k
   · by_cases h2 : j = k
     · omega
     · simp [h1, h2]
   · by_cases h2 : j = k
     · simp [h1, h2]
     · simp [h1, h2]
  rw [e]
theorem rsv_set (lab : List (List Int × Int)) (i : Nat) (a : Int) : ∀ (us : List (Nat × Nat × List Int)) {fs : List FnF}, fs ≠ [] → (∀ u ∈ us, u.1 ≠ i) → rsv lab (setA fs i a) us = setA (rsv lab fs us) i a
  | [], fs, _, _ => rfl
  | u :: us, fs, h, hu => by
    unfold rsv
    rw [List.foldl_cons, List.foldl_cons]
    cases e : lab.find? (fun l => l.1 == u.2.2) with
    | none => exact rsv_set lab i a us h fun v hv => hu v (by simp [hv])
    | some l =>
      simp only
      rw [set_swap h (fun q => hu u (by simp) q.symm)]
      exact rsv_set lab i a us (set_ne h _ _) fun v hv => hu v (by simp [hv])
/-- a label that is met: its uses so far are patched -/
theorem rsv_mark {lab : List (List Int × Int)} {nm : List Int} {a : Int} (e : lab.find? (fun l => l.1 == nm) = none) : ∀ (us : List (Nat × Nat × List Int)) {fs : List FnF}, fs ≠ [] → us.Pairwise (fun u v => u.1 < v.1) →
    rsv (lab ++ [(nm, a)]) fs us = (pnd lab us nm).foldl (fun fs u => setA fs u.2 a) (rsv lab fs us)
  | [], fs, _, _ => by unfold pnd; rw [e]; rfl
  | u :: us, fs, h, hp => by
    have ih := fun {fs : List FnF} (h : fs ≠ []) => rsv_mark (a := a) e us h (List.pairwise_cons.1 hp).2
    have hlt := (List.pairwise_cons.1 hp).1
    have key : ∀ (L : List (Nat × Nat)) (g : List FnF) (i : Nat) (b : Int), g ≠ [] → (∀ u ∈ L, u.2 ≠ i) → L.foldl (fun fs u => setA fs u.2 a) (setA g i b) = setA (L.foldl (fun fs u => setA fs u.2 a) g) i b := by
      intro L
      induction L with
      | nil => intro g i b _ _; rfl
      | cons x L ihL =>
        intro g i b hg hx
        rw [List.foldl_cons, List.foldl_cons, set_swap hg (fun q => hx x (by simp) q.symm)]
        exact ihL _ _ _ (set_ne hg _ _) fun v hv => hx v (by simp [hv])
    unfold rsv
    rw [List.foldl_cons, List.foldl_cons]
    by_cases hn : u.2.2 = nm
    · have e1 : (lab ++ [(nm, a)]).find? (fun l => l.1 == u.2.2) = some (nm, a) := by
        rw [List.find?_append, hn, e]
        simp
      have e2 : lab.find? (fun l => l.1 == u.2.2) = none := by rw [hn]; exact e
      rw [e1, e2]
      simp only
      have e3 : pnd lab (u :: us) nm = (u.2.1, u.1) :: pnd lab us nm := by
        unfold pnd
        rw [e]
        simp [hn]
      rw [e3, List.foldl_cons]
      have h5 := ih (set_ne h u.1 a)
      unfold rsv at h5
      rw [h5]
      congr 1
      exact rsv_set lab u.1 a us h fun v hv q => by have := hlt v hv; omega
    · have e1 : (lab ++ [(nm, a)]).find? (fun l => l.1 == u.2.2) = lab.find? (fun l => l.1 == u.2.2) := by
        rw [List.find?_append]
        cases lab.find? (fun l => l.1 == u.2.2) with
        | some l => rfl
        | none =>
          have : ([(nm, a)] : List (List Int × Int)).find? (fun l => l.1 == u.2.2) = none := by simp [Ne.symm hn]
          rw [this]; rfl
      have e3 : pnd lab (u :: us) nm = pnd lab us nm := by
        unfold pnd
        rw [e]
        simp [hn]
      rw [e1, e3]
      cases e4 : lab.find? (fun l => l.1 == u.2.2) with
      | none => exact ih h
      | some l => exact ih (set_ne h _ _)

/-- the least of some lines: 0 is none -/
def IsLeast (r b : Nat) (ls : List Nat) : Prop := (b = 0 ∧ ls = [] → r = 0) ∧ (b ≠ 0 → r ≠ 0 ∧ r ≤ b) ∧ (∀ l ∈ ls, r ≠ 0 ∧ r ≤ l) ∧ (r = b ∨ r ∈ ls)
theorem IsLeast.one {r s b : Nat} {ls : List Nat} (h : IsLeast r b ls) (g : IsLeast s b ls) : r = s := by
  obtain ⟨h1, h2, h3, h4⟩ := h
  obtain ⟨g1, g2, g3, g4⟩ := g
  rcases h4 with h4 | h4
  · rcases g4 with g4 | g4
    · omega
    · by_cases hb : b = 0
      · have := h3 s g4
        omega
      · have := h3 s g4
        have := g2 hb
        omega
  · rcases g4 with g4 | g4
    · by_cases hb : b = 0
      · have := g3 r h4
        omega
      · have := g3 r h4
        have := h2 hb
        omega
    · have := h3 s g4
      have := g3 r h4
      omega
theorem IsLeast.nil (b : Nat) : IsLeast b b [] := ⟨fun h => h.1, fun h => ⟨h, Nat.le_refl _⟩, fun l h => by simp at h, .inl rfl⟩
/-- one line more -/
def blm (b l : Nat) : Nat := if b = 0 ∨ l < b then l else b
theorem IsLeast.more {r b l : Nat} {ls : List Nat} (h : IsLeast r b ls) (hl : l ≠ 0) : IsLeast (blm r l) b (ls ++ [l]) := by
  obtain ⟨h1, h2, h3, h4⟩ := h
  unfold blm
  refine ⟨fun q => by simp at q, fun q => ?_, fun x hx => ?_, ?_⟩
  · have := h2 q
    split <;> omega
  · rcases List.mem_append.1 hx with hx | hx
    · have := h3 x hx
      split <;> omega
    · obtain rfl : x = l := by simpa using hx
      split <;> omega
  · split
    · right; simp
    · rcases h4 with h4 | h4
      · exact .inl h4
      · right; simp [h4]
/-- the uses that no label of their function takes: their lines -/
def opn (lab : List (List Int × Int)) (us : List (Nat × Nat × List Int)) : List Nat := (us.filter (fun u => (lab.find? (fun l => l.1 == u.2.2)).isNone)).map (fun u => u.2.1)
theorem wrong_bad (m : MkF) (l : Nat) : (m.wrong l).bad = blm m.bad l ∧ (m.wrong l) = { m with bad := blm m.bad l } := by
  unfold MkF.wrong blm
  split <;> exact ⟨rfl, rfl⟩
theorem ends_fold (us : List (Nat × Nat × List Int)) : ∀ (m : MkF), (∀ u ∈ us, u.2.1 ≠ 0) → ∃ b, us.foldl MkF.use1 m = { m with fn := rsv m.lab m.fn us, bad := b } ∧ IsLeast b m.bad (opn m.lab us) := by
  refine snoc_ind (P := fun us => ∀ (m : MkF), (∀ u ∈ us, u.2.1 ≠ 0) → ∃ b, us.foldl MkF.use1 m = { m with fn := rsv m.lab m.fn us, bad := b } ∧ IsLeast b m.bad (opn m.lab us)) ?_ ?_ us
  · intro m _; exact ⟨m.bad, rfl, IsLeast.nil _⟩
  · intro us u ih m hu
    obtain ⟨b, h1, h2⟩ := ih m fun v hv => hu v (by simp [hv])
    rw [List.foldl_append, h1, List.foldl_cons, List.foldl_nil, rsv_snoc]
    unfold MkF.use1
    simp only
    cases e : m.lab.find? (fun l => l.1 == u.2.2) with
    | some l =>
      refine ⟨b, rfl, ?_⟩
      have : opn m.lab (us ++ [u]) = opn m.lab us := by unfold opn; simp [e]
      rw [this]; exact h2
    | none =>
      refine ⟨blm b u.2.1, (wrong_bad _ _).2, ?_⟩
      have : opn m.lab (us ++ [u]) = opn m.lab us ++ [u.2.1] := by unfold opn; simp [e]
      rw [this]; exact h2.more (hu u (by simp))
theorem ends_eq (m : MkF) (h : ∀ u ∈ m.use, u.2.1 ≠ 0) : ∃ b, m.ends = { m with fn := rsv m.lab m.fn m.use, bad := b, lab := [], use := [] } ∧ IsLeast b m.bad (opn m.lab m.use) := by
  obtain ⟨b, h1, h2⟩ := ends_fold m.use m h
  refine ⟨b, ?_, h2⟩
  unfold MkF.ends
  rw [h1]
/-- a line of an open use stands among those that wait for its name -/
theorem opn_pnd {lab : List (List Int × Int)} {us : List (Nat × Nat × List Int)} {l : Nat} : l ∈ opn lab us ↔ ∃ n i, (l, i) ∈ pnd lab us n := by
  unfold opn pnd
  constructor
  · intro h
    obtain ⟨u, hu, rfl⟩ := List.mem_map.1 h
    obtain ⟨h1, h2⟩ := List.mem_filter.1 hu
    refine ⟨u.2.2, u.1, ?_⟩
    have : (lab.find? (fun l => l.1 == u.2.2)) = none := by simpa using h2
    rw [this]
    simp only [Option.isSome_none, Bool.false_eq_true, if_false]
    exact List.mem_map.2 ⟨u, List.mem_filter.2 ⟨h1, by simp⟩, rfl⟩
  · rintro ⟨n, i, h⟩
    split at h
    · simp at h
    · rename_i h0
      obtain ⟨u, hu, e⟩ := List.mem_map.1 h
      obtain ⟨h1, h2⟩ := List.mem_filter.1 hu
      have e2 : u.2.2 = n := by simpa using h2
      refine List.mem_map.2 ⟨u, List.mem_filter.2 ⟨h1, ?_⟩, by simpa using congrArg Prod.fst e⟩
      rw [e2]
      simp only [Option.isNone_iff_eq_none]
      cases e3 : lab.find? (fun l => l.1 == n) with
      | none => rfl
      | some x => rw [e3] at h0; exact absurd rfl h0
end Go.Proofs.YtcnjlbjpeklgkaaGreatDoor
