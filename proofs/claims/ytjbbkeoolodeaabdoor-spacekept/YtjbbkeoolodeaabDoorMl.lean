import Derived.Test.YtjbbkeoolodeaabDoorMk
namespace Go.Proofs.YtjbbkeoolodeaabDoor
open Go.RowKit
set_option linter.unusedVariables false
set_option linter.unusedSimpArgs false

theorem told_of {n : Nat} (st : Sp) : Told (rawOf n st) := by
  intro a ha
  have h : ob n st a = true := ha
  unfold ob at h
  rw [Bool.and_eq_true] at h
  refine ⟨st.O a, ?_⟩
  show obM st (a : Int) = _
  unfold obM
  rw [show ((a : Int)).toNat = a from by omega, if_pos ⟨by omega, h.2⟩]
theorem mIn_of {n : Nat} {st : Sp} (hI : Inv n st) : ∀ a b, (rawOf n st).M a = some b → ∃ j : Nat, a = j ∧ j < 64 * n := by
  intro a b h
  have h' : obM st a = some b := h
  unfold obM at h'
  by_cases e : 0 ≤ a ∧ hasB (st.O a.toNat) = true
  · exact ⟨a.toNat, by omega, (hI.objs _ e.2).1⟩
  · rw [if_neg e] at h'; cases h'
theorem obM_of {n : Nat} {st : Sp} {a : Nat} {b : Blk} (h : (rawOf n st).M (a : Int) = some b) : b = st.O a ∧ hasB (st.O a) = true := by
  have h' : obM st (a : Int) = some b := h
  unfold obM at h'
  rw [show ((a : Int)).toNat = a from by omega] at h'
  by_cases e : (0 : Int) ≤ (a : Int) ∧ hasB (st.O a) = true
  · rw [if_pos e] at h'; cases h'; exact ⟨rfl, e.2⟩
  · rw [if_neg e] at h'; cases h'
theorem mult_gap {a b x : Nat} (hx : 0 < x) (ha : a % x = 0) (hb : b % x = 0) (h : a < b) : a + x ≤ b := by
  obtain ⟨p, rfl⟩ := Nat.dvd_of_mod_eq_zero ha
  obtain ⟨q, rfl⟩ := Nat.dvd_of_mod_eq_zero hb
  have : p < q := Nat.lt_of_mul_lt_mul_left h
  calc x * p + x = x * (p + 1) := by rw [Nat.mul_succ]
    _ ≤ x * q := Nat.mul_le_mul_left _ this
theorem rooms_of {n : Nat} {st : Sp} (hI : Inv n st) : Rooms n (rawOf n st) := by
  intro a b ha hb
  obtain ⟨rfl, hh⟩ := obM_of hb
  obtain ⟨h1, h2, h3⟩ := hI.objs a hh
  obtain ⟨_, _, h4, h5⟩ := fits_size h2
  obtain ⟨k, z, x, t, hO⟩ : ∃ k z x t, st.O a = (k, z, x, t) := ⟨_, _, _, _, rfl⟩
  rw [hO] at h2 h3 h4 h5 ⊢
  dsimp only at h2 h3 h4 h5 ⊢
  refine ⟨h4, h5, ?_⟩
  have hother : ∀ a', (rawOf n st).P a' = true → ObOk n st.S a' (st.O a') := fun a' h' => by
    have : ob n st a' = true := h'
    unfold ob at this
    rw [Bool.and_eq_true] at this
    exact hI.objs a' this.2
  rcases h3 with ⟨s1, s2, s3⟩ | ⟨s1, s2, s3⟩
  · obtain ⟨c, hc, hc8⟩ := of_lt z (by unfold pagesV; rw [if_neg (by omega)]; omega) (by unfold ofV; repeat' split; all_goals omega)
    obtain ⟨w', y', e1, e2, e3, e4⟩ := class_nums hc8
    have hw : roomN z = w' := by unfold roomN; rw [if_neg (by omega), hc, e2]
    rw [hw]
    rw [hc] at s2 s3
    unfold startB at s3
    rw [Bool.and_eq_true, e2] at s3
    have s4 : a % 64 % w' = 0 := by simpa using s3.1
    have s5 : a % 64 + w' ≤ 64 := by simpa using s3.2
    refine ⟨by omega, fun a' h6 h7 => ?_⟩
    by_cases hpg : a' / 64 = a / 64
    · obtain ⟨o1, o2, o3⟩ := hother a' h7
      rcases o3 with ⟨o4, o5, o6⟩ | ⟨o4, o5, o6⟩
      · rw [hpg, s2] at o5
        have oc : ofV (st.O a').2.1 = (c : Int) := by simp at o5; omega
        rw [oc] at o6
        unfold startB at o6
        rw [Bool.and_eq_true, e2] at o6
        have o7 : a' % 64 % w' = 0 := by simpa using o6.1
        have := mult_gap (a := a % 64) (b := a' % 64) (x := w') (by omega) s4 o7 (by omega)
        omega
      · rw [hpg, s2] at o6; simp at o6
    · omega
  · have hw : roomN z = ((z + 63) / 64).toNat * 64 := by unfold roomN; rw [if_pos s1]
    obtain ⟨m, hm⟩ : ∃ m : Nat, (z + 63) / 64 = (m : Int) := ⟨((z + 63) / 64).toNat, by omega⟩
    rw [hm] at s3 hw
    rw [hw, show ((m : Int)).toNat = m from by omega]
    rcases hI.good (a / 64) (by omega) with e | ⟨c, _, _, e⟩ | ⟨q, q1, q2, q3, e, q4⟩ | ⟨e, _⟩
    · rw [s3] at e; simp at e
    · rw [s3] at e; simp at e
    · rw [s3] at e
      have : m = q := by simp at e; omega
      subst this
      refine ⟨by omega, fun a' h6 h7 => ?_⟩
      by_cases hpg : a / 64 < a' / 64 ∧ a' / 64 < a / 64 + m
      · have e3 := q4 (a' / 64) hpg.1 hpg.2
        obtain ⟨o1, o2, o3⟩ := hother a' h7
        rcases o3 with ⟨o4, o5, o6⟩ | ⟨o4, o5, o6⟩
        · rw [e3] at o5; simp at o5
        · rw [e3] at o6; simp at o6
      · by_cases hsame : a' / 64 = a / 64
        · obtain ⟨o1, o2, o3⟩ := hother a' h7
          rcases o3 with ⟨o4, o5, o6⟩ | ⟨o4, o5, o6⟩
          · rw [hsame, s3] at o5; simp at o5
          · omega
        · omega
    · rw [s3] at e; simp at e
end Go.Proofs.YtjbbkeoolodeaabDoor
namespace Go.Proofs.YtjbbkeoolodeaabDoor
open Go.RowKit
set_option linter.unusedVariables false
set_option linter.unusedSimpArgs false

def goneB (r : Raw) (kp : Nat → Bool) (a : Nat) : Bool := r.P a && !kp a
theorem dropTo_succ (n : Nat) (r : Raw) (kp : Nat → Bool) (p : Nat) : dropTo n r kp (p + 1) = if r.P p && !kp p then (match r.M (p : Int) with | some b => drR n (dropTo n r kp p) p b.2.1 b.2.2.1 | none => dropTo n r kp p) else dropTo n r kp p := rfl
theorem drop_M {n : Nat} {r : Raw} {kp : Nat → Bool} (hT : Told r) : ∀ (p : Nat) (i : Int), (dropTo n r kp p).M i = if 0 ≤ i ∧ i.toNat < p ∧ goneB r kp i.toNat = true then none else r.M i
  | 0, i => by rw [if_neg (by omega)]; rfl
  | p + 1, i => by
    have ih := drop_M (n := n) (kp := kp) hT p i
    rw [dropTo_succ]
    cases e : (r.P p && !kp p) with
    | false =>
      rw [if_neg (by simp), ih]
      by_cases h : 0 ≤ i ∧ i.toNat < p ∧ goneB r kp i.toNat = true
      · rw [if_pos h, if_pos ⟨h.1, by omega, h.2.2⟩]
      · rw [if_neg h, if_neg ?_]
        rintro ⟨h1, h2, h3⟩
        by_cases ep : i.toNat = p
        · rw [ep] at h3; unfold goneB at h3; rw [e] at h3; cases h3
        · exact h ⟨h1, by omega, h3⟩
    | true =>
      rw [if_pos rfl]
      obtain ⟨b, hb⟩ := hT p (by rw [Bool.and_eq_true] at e; exact e.1)
      rw [hb]
      show (if i = (p : Int) then none else (dropTo n r kp p).M i) = _
      by_cases ei : i = (p : Int)
      · rw [if_pos ei, if_pos ⟨by omega, by omega, by rw [ei, show ((p : Int)).toNat = p from by omega]; exact e⟩]
      · rw [if_neg ei, ih]
        by_cases h : 0 ≤ i ∧ i.toNat < p ∧ goneB r kp i.toNat = true
        · rw [if_pos h, if_pos ⟨h.1, by omega, h.2.2⟩]
        · rw [if_neg h, if_neg (fun h' => h ⟨h'.1, by omega, h'.2.2⟩)]
/-- a serial of one that is gone -/
def goneS (r : Raw) (kp : Nat → Bool) (p : Nat) (x : Int) : Bool := (List.range p).any fun a => goneB r kp a && (match r.M (a : Int) with | some b => b.2.2.1 == x | none => false)
theorem goneS_succ (r : Raw) (kp : Nat → Bool) (p : Nat) (x : Int) : goneS r kp (p + 1) x = (goneS r kp p x || (goneB r kp p && (match r.M (p : Int) with | some b => b.2.2.1 == x | none => false))) := by
  unfold goneS
  rw [List.range_succ, List.any_append]
  simp
theorem drop_R {n : Nat} {r : Raw} {kp : Nat → Bool} (hT : Told r) : ∀ (p : Nat) (x : Int), (dropTo n r kp p).R x = if goneS r kp p x = true then none else r.R x
  | 0, x => by rw [if_neg (by unfold goneS; simp)]; rfl
  | p + 1, x => by
    have ih := drop_R (n := n) (kp := kp) hT p x
    rw [dropTo_succ, goneS_succ]
    cases e : (r.P p && !kp p) with
    | false =>
      have e' : goneB r kp p = false := e
      rw [if_neg (by simp), ih, e']
      simp
    | true =>
      have e' : goneB r kp p = true := e
      rw [if_pos rfl, e']
      obtain ⟨b, hb⟩ := hT p (by rw [Bool.and_eq_true] at e; exact e.1)
      rw [hb]
      show (if x = b.2.2.1 then none else (dropTo n r kp p).R x) = _
      by_cases ex : x = b.2.2.1
      · rw [if_pos ex, if_pos (by rw [ex]; simp)]
      · rw [if_neg ex, ih]
        have : (b.2.2.1 == x) = false := by simpa using fun h => ex h.symm
        simp [this]
end Go.Proofs.YtjbbkeoolodeaabDoor
namespace Go.Proofs.YtjbbkeoolodeaabDoor
open Go.RowKit
set_option linter.unusedVariables false
set_option linter.unusedSimpArgs false

/-- page q lies in the run of a great object below p that is gone -/
def goneP (r : Raw) (kp : Nat → Bool) (p q : Nat) : Bool := (List.range p).any fun a => goneB r kp a && (match r.M (a : Int) with | some b => decide (32 < b.2.1 ∧ a / 64 ≤ q ∧ q < a / 64 + ((b.2.1 + 63) / 64).toNat) | none => false)
theorem goneP_succ (r : Raw) (kp : Nat → Bool) (p q : Nat) : goneP r kp (p + 1) q = (goneP r kp p q || (goneB r kp p && (match r.M (p : Int) with | some b => decide (32 < b.2.1 ∧ p / 64 ≤ q ∧ q < p / 64 + ((b.2.1 + 63) / 64).toNat) | none => false))) := by
  unfold goneP
  rw [List.range_succ, List.any_append]
  simp
theorem goneP_iff {r : Raw} {kp : Nat → Bool} {p q : Nat} : goneP r kp p q = true ↔ ∃ a b, a < p ∧ goneB r kp a = true ∧ r.M (a : Int) = some b ∧ 32 < b.2.1 ∧ a / 64 ≤ q ∧ q < a / 64 + ((b.2.1 + 63) / 64).toNat := by
  unfold goneP
  rw [List.any_eq_true]
  constructor
  · rintro ⟨a, ha, h⟩
    rw [List.mem_range] at ha
    rw [Bool.and_eq_true] at h
    cases e : r.M (a : Int) with
    | none => rw [e] at h; exact absurd h.2 (by simp)
    | some b =>
      rw [e] at h
      have := h.2
      simp only [decide_eq_true_eq] at this
      exact ⟨a, b, ha, h.1, e, this.1, this.2.1, this.2.2⟩
  · rintro ⟨a, b, h1, h2, h3, h4, h5, h6⟩
    refine ⟨a, by rw [List.mem_range]; omega, ?_⟩
    rw [h2, h3]
    simp only [Bool.true_and, decide_eq_true_eq]
    exact ⟨h4, h5, h6⟩
theorem drop_S {n : Nat} {st : Sp} {kp : Nat → Bool} (hI : Inv n st) : ∀ (p : Nat) (q : Nat), (dropTo n (rawOf n st) kp p).S q = if goneP (rawOf n st) kp p q = true then (0, 0, 0) else st.S q
  | 0, q => by rw [if_neg (by unfold goneP; simp)]; rfl
  | p + 1, q => by
    have ih := fun q => drop_S (kp := kp) hI p q
    rw [dropTo_succ, goneP_succ]
    cases e : ((rawOf n st).P p && !kp p) with
    | false =>
      have e' : goneB (rawOf n st) kp p = false := e
      rw [if_neg (by simp), ih, e']
      simp
    | true =>
      have e' : goneB (rawOf n st) kp p = true := e
      rw [if_pos rfl, e']
      have hP : (rawOf n st).P p = true := by rw [Bool.and_eq_true] at e; exact e.1
      obtain ⟨b, hb⟩ := told_of st p hP
      have hRo := rooms_of hI p b hP hb
      obtain ⟨rfl, hh⟩ := obM_of hb
      obtain ⟨h1, h2, h3⟩ := hI.objs p hh
      rw [hb]
      show (if 32 < (st.O p).2.1 then gvS (dropTo n (rawOf n st) kp p).S n ((p / 64 : Nat) : Int) else (dropTo n (rawOf n st) kp p).S) q = _
      by_cases hz : 32 < (st.O p).2.1
      · rw [if_pos hz]
        rcases h3 with ⟨h3, _⟩ | ⟨_, h4, h5⟩
        · omega
        have hroom : roomN (st.O p).2.1 = (((st.O p).2.1 + 63) / 64).toNat * 64 := by unfold roomN; rw [if_pos hz]
        have hng : goneP (rawOf n st) kp p (p / 64) = false := by
          cases eg : goneP (rawOf n st) kp p (p / 64) with
          | false => rfl
          | true =>
            obtain ⟨a, b, g1, g2, g3, g4, g5, g6⟩ := goneP_iff.1 eg
            have gP : (rawOf n st).P a = true := by unfold goneB at g2; rw [Bool.and_eq_true] at g2; exact g2.1
            have := (rooms_of hI a b gP g3).2.2.2 p g1 hP
            have hr : roomN b.2.1 = ((b.2.1 + 63) / 64).toNat * 64 := by unfold roomN; rw [if_pos g4]
            obtain ⟨rfl, gh⟩ := obM_of g3
            obtain ⟨_, _, i3⟩ := hI.objs a gh
            rcases i3 with ⟨i3, _⟩ | ⟨_, i4, _⟩
            · omega
            · omega
        have hS : (dropTo n (rawOf n st) kp p).S (p / 64) = (2, 0, ((st.O p).2.1 + 63) / 64) := by rw [ih, if_neg (by rw [hng]; simp), h5]
        unfold gvS giveB
        rw [show (((p / 64 : Nat) : Int)).toNat = p / 64 from by omega, hS]
        rw [if_pos (by unfold inB; simp; omega)]
        unfold setF lenP
        rw [if_pos rfl]
        dsimp only
        by_cases hq : p / 64 ≤ q ∧ q < p / 64 + (((st.O p).2.1 + 63) / 64).toNat
        · rw [if_pos hq, if_pos (by simp [hz, hq])]
        · rw [if_neg hq, ih]
          have : decide (32 < (st.O p).2.1 ∧ p / 64 ≤ q ∧ q < p / 64 + (((st.O p).2.1 + 63) / 64).toNat) = false := by simp only [decide_eq_false_iff_not]; exact fun h => hq h.2
          simp only [this, Bool.and_false, Bool.or_false]
      · rw [if_neg hz, ih]
        have : decide (32 < (st.O p).2.1 ∧ p / 64 ≤ q ∧ q < p / 64 + (((st.O p).2.1 + 63) / 64).toNat) = false := by simp only [decide_eq_false_iff_not]; exact fun h => hz h.1
        simp only [this, Bool.and_false, Bool.or_false]
end Go.Proofs.YtjbbkeoolodeaabDoor
namespace Go.Proofs.YtjbbkeoolodeaabDoor
open Go.RowKit
set_option linter.unusedVariables false
set_option linter.unusedSimpArgs false

/-- a class's page without an object -/
def bareB (S : Nat → Int × Int × Int) (P : Nat → Bool) (p : Nat) : Bool := (S p).1 == 1 && cntR P (64 * p) (64 * p + 64) == 0
/-- a class's page with one -/
def fullB (S : Nat → Int × Int × Int) (P : Nat → Bool) (c p : Nat) : Bool := (S p).1 == 1 && ((S p).2.1 == (c : Int) && !(cntR P (64 * p) (64 * p + 64) == 0))
def dlS (S : Nat → Int × Int × Int) (P : Nat → Bool) (i : Nat) : Nat → Int × Int × Int := fun p => if decide (p < i) && bareB S P p then (0, 0, 0) else S p
def dlF (S : Nat → Int × Int × Int) (P : Nat → Bool) (F : Nat → Nat → Bool) (i : Nat) : Nat → Nat → Bool := fun c j => F c j || (decide (j / 64 < i) && fullB S P c (j / 64) && startB (c : Int) (j % 64) && !P j)
theorem lt_succ_b (p i : Nat) : decide (p < i + 1) = (decide (p < i) || decide (p = i)) := by
  by_cases h : p < i
  · simp [h]; omega
  · by_cases e : p = i
    · simp [e]
    · simp [h, e]; omega
theorem dl_closed {n : Nat} {q : Raw} (hg : Good n q.S) : ∀ i, i ≤ n → dlR n q.S q i = { q with S := dlS q.S q.P i, F := dlF q.S q.P q.F i }
  | 0, _ => by
    refine Raw.eq rfl ?_ ?_ rfl rfl rfl rfl
    · funext p; show q.S p = dlS q.S q.P 0 p; unfold dlS; simp
    · funext c j; show q.F c j = dlF q.S q.P q.F 0 c j; unfold dlF; simp
  | i + 1, hi => by
    show dlStep n q.S (dlR n q.S q i) i = _
    rw [dl_closed hg i (by omega)]
    unfold dlStep
    dsimp only
    have hSi : dlS q.S q.P i i = q.S i := by unfold dlS; simp
    have hSn : ∀ (hb : bareB q.S q.P i = false), dlS q.S q.P (i + 1) = dlS q.S q.P i := fun hb => by
      funext p
      unfold dlS
      rw [lt_succ_b]
      by_cases e : p = i
      · subst e; simp [hb]
      · simp [e]
    have hFn : ∀ (hb : ∀ c, fullB q.S q.P c i = false), dlF q.S q.P q.F (i + 1) = dlF q.S q.P q.F i := fun hb => by
      funext c j
      unfold dlF
      rw [lt_succ_b]
      by_cases e : j / 64 = i
      · rw [e, hb c]; simp
      · simp [e]
    by_cases h1 : (q.S i).1 = 1
    · rw [if_pos h1]
      obtain ⟨c, hc, hS⟩ : ∃ c : Nat, c < 8 ∧ q.S i = (1, (c : Int), 0) := by
        rcases hg.cases (i := i) (by omega) with e | ⟨c, c1, c2, e⟩ | ⟨k, _, _, _, e⟩ | e
        · rw [e] at h1; simp at h1
        · exact ⟨c.toNat, by omega, by rw [e]; simp; omega⟩
        · rw [e] at h1; simp at h1
        · rw [e] at h1; simp at h1
      cases h2 : (cntR q.P (64 * i) (64 * i + 64) == 0) with
      | true =>
        rw [if_pos rfl]
        refine Raw.eq rfl ?_ ?_ rfl rfl rfl rfl
        · show gvS (dlS q.S q.P i) n (i : Int) = dlS q.S q.P (i + 1)
          unfold gvS giveB
          rw [show ((i : Int)).toNat = i from by omega, hSi, hS, if_pos (by unfold inB; simp; omega)]
          funext p
          show (if i ≤ p ∧ p < i + lenP (1, (c : Int), 0) then (0, 0, 0) else dlS q.S q.P i p) = _
          rw [show lenP (1, (c : Int), 0) = 1 from rfl]
          by_cases e : p = i
          · subst e
            rw [if_pos (by omega)]
            unfold dlS bareB
            rw [hS, h2]; simp
          · rw [if_neg (by omega)]
            unfold dlS
            rw [lt_succ_b]; simp [e]
        · show dlF q.S q.P q.F i = dlF q.S q.P q.F (i + 1)
          exact (hFn fun c => by unfold fullB; rw [h2]; simp).symm
      | false =>
        rw [if_neg (by simp)]
        refine Raw.eq rfl ?_ ?_ rfl rfl rfl rfl
        · show dlS q.S q.P i = dlS q.S q.P (i + 1)
          exact (hSn (by unfold bareB; rw [h2]; simp)).symm
        · show (fun d => if d = (q.S i).2.1.toNat then fuR { q with S := dlS q.S q.P i, F := dlF q.S q.P q.F i } (q.S i).2.1.toNat i else dlF q.S q.P q.F i d) = dlF q.S q.P q.F (i + 1)
          rw [hS]
          funext d j
          show (if d = ((c : Int)).toNat then fuR { q with S := dlS q.S q.P i, F := dlF q.S q.P q.F i } ((c : Int)).toNat i else dlF q.S q.P q.F i d) j = dlF q.S q.P q.F (i + 1) d j
          rw [show ((c : Int)).toNat = c from by omega]
          by_cases e : d = c
          · subst e
            rw [if_pos rfl]
            show (dlF q.S q.P q.F i d j || (decide (j / 64 = i) && startB (d : Int) (j % 64) && !q.P j)) = _
            unfold dlF
            rw [lt_succ_b]
            by_cases ej : j / 64 = i
            · have hf : fullB q.S q.P d i = true := by unfold fullB; rw [hS, h2]; simp
              rw [ej, hf]; simp
            · simp [ej]
          · rw [if_neg e]
            unfold dlF
            rw [lt_succ_b]
            by_cases ej : j / 64 = i
            · have hf : fullB q.S q.P d i = false := by unfold fullB; rw [hS]; simp; omega
              rw [ej, hf]; simp
            · simp [ej]
    · rw [if_neg h1]
      refine Raw.eq rfl ?_ ?_ rfl rfl rfl rfl
      · exact (hSn (by unfold bareB; simp [h1])).symm
      · exact (hFn fun c => by unfold fullB; simp [h1]).symm
end Go.Proofs.YtjbbkeoolodeaabDoor
namespace Go.Proofs.YtjbbkeoolodeaabDoor
open Go.RowKit
set_option linter.unusedVariables false
set_option linter.unusedSimpArgs false

/-- the classes below c are linked -/
def lnSp (n : Nat) (st : Sp) : Nat → Sp
  | 0 => st
  | c + 1 => { lnSp n st c with W := linkR n (rawOf n (lnSp n st c)) c }
theorem ln_raw (n : Nat) (st : Sp) : ∀ c, lnR n (rawOf n st) c = rawOf n (lnSp n st c)
  | 0 => rfl
  | c + 1 => by
    show { lnR n (rawOf n st) c with W := linkR n (lnR n (rawOf n st) c) c } = rawOf n { lnSp n st c with W := linkR n (rawOf n (lnSp n st c)) c }
    rw [ln_raw n st c]
    rfl
theorem ln_parts (n : Nat) (st : Sp) : ∀ c, (lnSp n st c).S = st.S ∧ (lnSp n st c).O = st.O ∧ (lnSp n st c).last = st.last
  | 0 => ⟨rfl, rfl, rfl⟩
  | c + 1 => ln_parts n st c
/-- the objects that are kept -/
def kpO (st : Sp) (kp : Nat → Bool) : Nat → Blk := fun a => if kp a then st.O a else noB
/-- the pages behind the drops -/
def kpS1 (n : Nat) (st : Sp) (kp : Nat → Bool) : Nat → Int × Int × Int := fun q => if goneP (rawOf n st) kp (64 * n) q = true then (0, 0, 0) else st.S q
theorem has_noB : hasB noB = false := rfl
theorem kp_has (st : Sp) (kp : Nat → Bool) (a : Nat) : hasB (kpO st kp a) = (hasB (st.O a) && kp a) := by
  unfold kpO
  cases kp a with
  | true => simp
  | false => simp [has_noB]
theorem kp_P {n : Nat} {st : Sp} {kp : Nat → Bool} : (dropTo n (rawOf n st) kp (64 * n)).P = ob n { st with O := kpO st kp } := by
  funext a
  rw [(drop_keeps (n := n) (kp := kp) (told_of st) (64 * n) a).1]
  show (ob n st a && _) = (decide (a < 64 * n) && hasB (kpO st kp a))
  rw [kp_has]
  unfold ob
  by_cases h : a < 64 * n
  · simp [h]
  · simp [h]
theorem kp_M {n : Nat} {st : Sp} {kp : Nat → Bool} (hI : Inv n st) : (dropTo n (rawOf n st) kp (64 * n)).M = obM { st with O := kpO st kp } := by
  funext i
  rw [drop_M (n := n) (kp := kp) (told_of st)]
  show (if _ then none else obM st i) = (if 0 ≤ i ∧ hasB (kpO st kp i.toNat) = true then some (kpO st kp i.toNat) else none)
  unfold goneB
  rw [kp_has]
  show (if 0 ≤ i ∧ i.toNat < 64 * n ∧ (ob n st i.toNat && !kp i.toNat) = true then none else obM st i) = _
  unfold ob obM
  by_cases h0 : 0 ≤ i
  · cases hh : hasB (st.O i.toNat) with
    | false => simp [h0, hh]
    | true =>
      have hlt := (hI.objs _ hh).1
      cases hk : kp i.toNat with
      | true => simp [h0, hh, hk, kpO]
      | false => simp [h0, hh, hk, hlt]
  · simp [h0]
end Go.Proofs.YtjbbkeoolodeaabDoor
namespace Go.Proofs.YtjbbkeoolodeaabDoor
open Go.RowKit
set_option linter.unusedVariables false
set_option linter.unusedSimpArgs false

theorem serF_some {n : Nat} {st : Sp} {x : Int} {a : Nat} (hx : 1 ≤ x) (h : serF n st x = some a) : a < 64 * n ∧ hasB (st.O a) = true ∧ (st.O a).2.2.1 = x := by
  unfold serF at h
  rw [if_pos hx] at h
  have h1 := List.find?_some h
  have h2 := List.mem_of_find?_eq_some h
  rw [List.mem_range] at h2
  rw [Bool.and_eq_true] at h1
  exact ⟨h2, h1.1, by simpa using h1.2⟩
theorem serF_none {n : Nat} {st : Sp} {x : Int} (hx : 1 ≤ x) (h : serF n st x = none) : ∀ a, a < 64 * n → hasB (st.O a) = true → (st.O a).2.2.1 ≠ x := by
  intro a ha hh he
  unfold serF at h
  rw [if_pos hx, List.find?_eq_none] at h
  have := h a (by rw [List.mem_range]; exact ha)
  rw [hh, he] at this
  simp at this
theorem kp_R {n : Nat} {st : Sp} {kp : Nat → Bool} (hI : Inv n st) : (dropTo n (rawOf n st) kp (64 * n)).R = serM n { st with O := kpO st kp } := by
  funext x
  rw [drop_R (n := n) (kp := kp) (told_of st)]
  show (if goneS (rawOf n st) kp (64 * n) x = true then none else serM n st x) = serM n { st with O := kpO st kp } x
  unfold serM
  by_cases hx : 1 ≤ x
  · have hgone : goneS (rawOf n st) kp (64 * n) x = true ↔ ∃ a, a < 64 * n ∧ hasB (st.O a) = true ∧ kp a = false ∧ (st.O a).2.2.1 = x := by
      unfold goneS
      rw [List.any_eq_true]
      constructor
      · rintro ⟨a, ha, h⟩
        rw [List.mem_range] at ha
        rw [Bool.and_eq_true] at h
        have hg : (ob n st a && !kp a) = true := h.1
        cases e : (rawOf n st).M (a : Int) with
        | none => rw [e] at h; exact absurd h.2 (by simp)
        | some b =>
          rw [e] at h
          obtain ⟨rfl, hh⟩ := obM_of e
          refine ⟨a, ha, hh, ?_, by simpa using h.2⟩
          rw [Bool.and_eq_true] at hg
          simpa using hg.2
      · rintro ⟨a, ha, hh, hk, hs⟩
        refine ⟨a, by rw [List.mem_range]; exact ha, ?_⟩
        have hP : (rawOf n st).P a = true := by show ob n st a = true; unfold ob; simp [ha, hh]
        obtain ⟨b, hb⟩ := told_of st a hP
        obtain ⟨rfl, _⟩ := obM_of hb
        rw [hb]
        unfold goneB
        rw [hP, hk]
        simp [hs]
    cases h1 : serF n st x with
    | none =>
      have hn := serF_none hx h1
      rw [if_neg (fun h => by obtain ⟨a, a1, a2, _, a3⟩ := hgone.1 h; exact hn a a1 a2 a3)]
      cases h2 : serF n { st with O := kpO st kp } x with
      | none => rfl
      | some a =>
        obtain ⟨a1, a2, a3⟩ := serF_some hx h2
        have a2' : hasB (kpO st kp a) = true := a2
        have a3' : (kpO st kp a).2.2.1 = x := a3
        rw [kp_has, Bool.and_eq_true] at a2'
        unfold kpO at a3'
        rw [if_pos a2'.2] at a3'
        exact absurd a3' (hn a a1 a2'.1)
    | some a =>
      obtain ⟨a1, a2, a3⟩ := serF_some hx h1
      cases hk : kp a with
      | true =>
        rw [if_neg ?_]
        · cases h2 : serF n { st with O := kpO st kp } x with
          | none =>
            have := serF_none hx h2 a a1 (by show hasB (kpO st kp a) = true; rw [kp_has, a2, hk]; rfl)
            exact absurd (show (kpO st kp a).2.2.1 = x by unfold kpO; rw [if_pos hk]; exact a3) this
          | some a' =>
            obtain ⟨b1, b2, b3⟩ := serF_some hx h2
            have b2' : hasB (kpO st kp a') = true := b2
            have b3' : (kpO st kp a').2.2.1 = x := b3
            rw [kp_has, Bool.and_eq_true] at b2'
            unfold kpO at b3'
            rw [if_pos b2'.2] at b3'
            have : a = a' := hI.one a a' a2 b2'.1 (by omega) (by omega)
            subst this
            rfl
        · intro h
          obtain ⟨a', c1, c2, c3, c4⟩ := hgone.1 h
          have : a = a' := hI.one a a' a2 c2 (by omega) (by omega)
          subst this
          rw [hk] at c3; cases c3
      | false =>
        rw [if_pos (hgone.2 ⟨a, a1, a2, hk, a3⟩)]
        cases h2 : serF n { st with O := kpO st kp } x with
        | none => rfl
        | some a' =>
          obtain ⟨b1, b2, b3⟩ := serF_some hx h2
          have b2' : hasB (kpO st kp a') = true := b2
          have b3' : (kpO st kp a').2.2.1 = x := b3
          rw [kp_has, Bool.and_eq_true] at b2'
          unfold kpO at b3'
          rw [if_pos b2'.2] at b3'
          have : a = a' := hI.one a a' a2 b2'.1 (by omega) (by omega)
          subst this
          rw [hk] at b2'; cases b2'.2
  · have e1 : serF n st x = none := by unfold serF; rw [if_neg hx]
    have e2 : serF n { st with O := kpO st kp } x = none := by unfold serF; rw [if_neg hx]
    rw [e1, e2]
    simp
end Go.Proofs.YtjbbkeoolodeaabDoor
namespace Go.Proofs.YtjbbkeoolodeaabDoor
open Go.RowKit
set_option linter.unusedVariables false
set_option linter.unusedSimpArgs false

/-- a run that is gone begins at a page that is told so -/
theorem gone_head {n : Nat} {st : Sp} {kp : Nat → Bool} (hI : Inv n st) {q : Nat} (h : goneP (rawOf n st) kp (64 * n) q = true) : ∃ p k : Nat, p < n ∧ st.S p = (2, 0, (k : Int)) ∧ p ≤ q ∧ q < p + k ∧ ∀ j, p ≤ j → j < p + k → goneP (rawOf n st) kp (64 * n) j = true := by
  obtain ⟨a, b, g1, g2, g3, g4, g5, g6⟩ := goneP_iff.1 h
  obtain ⟨rfl, gh⟩ := obM_of g3
  obtain ⟨_, _, i3⟩ := hI.objs a gh
  rcases i3 with ⟨i3, _⟩ | ⟨_, i4, i5⟩
  · omega
  · refine ⟨a / 64, (((st.O a).2.1 + 63) / 64).toNat, by omega, by rw [i5]; simp; omega, g5, g6, fun j j1 j2 => goneP_iff.2 ⟨a, _, g1, g2, g3, g4, j1, j2⟩⟩
theorem good_kp {n : Nat} {st : Sp} {kp : Nat → Bool} (hI : Inv n st) : Good n (kpS1 n st kp) := by
  intro i hi
  unfold PgOk kpS1
  cases hg : goneP (rawOf n st) kp (64 * n) i with
  | true => exact .inl (by rw [if_pos rfl])
  | false =>
    simp only [Bool.false_eq_true, if_false]
    rcases hI.good i hi with e | ⟨c, c1, c2, e⟩ | ⟨k, k1, k2, k3, e, k4⟩ | ⟨e, h, k, h1, h2, h3⟩
    · exact .inl e
    · exact .inr (.inl ⟨c, c1, c2, e⟩)
    · refine .inr (.inr (.inl ⟨k, k1, k2, k3, e, fun j j1 j2 => ?_⟩))
      cases hj : goneP (rawOf n st) kp (64 * n) j with
      | false => rw [if_neg (by simp)]; exact k4 j j1 j2
      | true =>
        obtain ⟨p, m, p1, p2, p3, p4, p5⟩ := gone_head hI hj
        by_cases ep : p ≤ i
        · have := p5 i ep (by omega)
          rw [hg] at this; cases this
        · have := k4 p (by omega) (by omega)
          rw [p2] at this; simp at this
    · refine .inr (.inr (.inr ⟨e, h, k, h1, h2, ?_⟩))
      cases hj : goneP (rawOf n st) kp (64 * n) h with
      | false => rw [if_neg (by simp)]; exact h3
      | true =>
        obtain ⟨p, m, p1, p2, p3, p4, p5⟩ := gone_head hI hj
        by_cases ep : p = h
        · subst ep
          rw [h3] at p2
          have : k = m := by simp at p2; omega
          subst this
          have := p5 i (by omega) (by omega)
          rw [hg] at this; cases this
        · rcases hI.good p p1 with e2 | ⟨c, _, _, e2⟩ | ⟨k', _, _, _, e2, q4⟩ | ⟨e2, _⟩
          · rw [p2] at e2; simp at e2
          · rw [p2] at e2; simp at e2
          · rw [p2] at e2
            have : m = k' := by simp at e2; omega
            subst this
            have := q4 h (by omega) p4
            rw [h3] at this; simp at this
          · rw [p2] at e2; simp at e2
end Go.Proofs.YtjbbkeoolodeaabDoor
namespace Go.Proofs.YtjbbkeoolodeaabDoor
open Go.RowKit
set_option linter.unusedVariables false
set_option linter.unusedSimpArgs false

/-- behind the drops, the wiping and the dealing, but for the links -/
def kpSp1 (n : Nat) (st : Sp) (kp : Nat → Bool) : Sp :=
  { W := wpW (dropTo n (rawOf n st) kp (64 * n)) (64 * n), S := dlS (kpS1 n st kp) (ob n { st with O := kpO st kp }) n, O := kpO st kp, last := st.last }
def keepSp (n : Nat) (st : Sp) (l : List Int) : Sp := lnSp n (kpSp1 n st (kpS l)) 8
theorem drop_FL {n : Nat} {r : Raw} {kp : Nat → Bool} (hT : Told r) : ∀ p, (dropTo n r kp p).F = r.F ∧ (dropTo n r kp p).last = r.last
  | 0 => ⟨rfl, rfl⟩
  | p + 1 => by
    have ih := drop_FL (n := n) (kp := kp) hT p
    rw [dropTo_succ]
    cases e : (r.P p && !kp p) with
    | false => rw [if_neg (by simp)]; exact ih
    | true =>
      rw [if_pos rfl]
      obtain ⟨b, hb⟩ := hT p (by rw [Bool.and_eq_true] at e; exact e.1)
      rw [hb]
      exact ih
theorem keep_raw {n : Nat} {st : Sp} {l : List Int} (hI : Inv n st) : keepR n (rawOf n st) l = rawOf n (keepSp n st l) := by
  unfold keepR dealR keepSp
  rw [← ln_raw]
  congr 1
  obtain ⟨q, hq⟩ : ∃ q, dropTo n (rawOf n st) (kpS l) (64 * n) = q := ⟨_, rfl⟩
  have hS : q.S = kpS1 n st (kpS l) := by rw [← hq]; funext p; exact drop_S hI (64 * n) p
  have hP : q.P = ob n { st with O := kpO st (kpS l) } := by rw [← hq]; exact kp_P
  have hM : q.M = obM { st with O := kpO st (kpS l) } := by rw [← hq]; exact kp_M hI
  have hR : q.R = serM n { st with O := kpO st (kpS l) } := by rw [← hq]; exact kp_R hI
  have hF : q.F = (rawOf n st).F := by rw [← hq]; exact (drop_FL (told_of st) _).1
  have hL : q.last = st.last := by rw [← hq]; exact (drop_FL (told_of st) _).2
  have hg : Good n q.S := by rw [hS]; exact good_kp hI
  rw [hq]
  have hcl := dl_closed (n := n) (q := rsF { q with W := wpW q (64 * n) } 8) hg n (Nat.le_refl _)
  refine hcl.trans (Raw.eq ?_ ?_ ?_ ?_ ?_ ?_ ?_)
  · show wpW q (64 * n) = wpW (dropTo n (rawOf n st) (kpS l) (64 * n)) (64 * n)
    rw [hq]
  · show dlS q.S q.P n = dlS (kpS1 n st (kpS l)) (ob n { st with O := kpO st (kpS l) }) n
    rw [hS, hP]
  · funext c j
    show dlF q.S q.P (fun d => if d < 8 then (fun _ => false) else q.F d) n c j = fr n (kpSp1 n st (kpS l)) (c : Int) j
    have hF0 : (if c < 8 then (fun _ => false) else q.F c) j = false := by
      by_cases hc : c < 8
      · rw [if_pos hc]
      · rw [if_neg hc, hF]
        show fr n st (c : Int) j = false
        unfold fr
        by_cases hj : j < 64 * n
        · have : (st.S (j / 64) == (1, (c : Int), 0)) = false := by
            rcases hI.good.cases (i := j / 64) (by omega) with e | ⟨d, d1, d2, e⟩ | ⟨k, _, _, _, e⟩ | e <;> rw [e] <;> simp
            omega
          rw [this]; simp
        · simp [hj]
    unfold dlF fr
    show ((if c < 8 then (fun _ => false) else q.F c) j || (decide (j / 64 < n) && fullB q.S q.P c (j / 64) && startB (c : Int) (j % 64) && !q.P j)) = _
    rw [hF0, Bool.false_or]
    show (decide (j / 64 < n) && fullB q.S q.P c (j / 64) && startB (c : Int) (j % 64) && !q.P j) = (decide (j < 64 * n) && (dlS (kpS1 n st (kpS l)) (ob n { st with O := kpO st (kpS l) }) n (j / 64) == (1, (c : Int), 0)) && startB (c : Int) (j % 64) && !hasB (kpO st (kpS l) j))
    rw [← hS, ← hP]
    by_cases hj : j < 64 * n
    · have hPj : q.P j = hasB (kpO st (kpS l) j) := by rw [hP]; show (decide (j < 64 * n) && hasB (kpO st (kpS l) j)) = _; simp [hj]
      rw [hPj]
      have : fullB q.S q.P c (j / 64) = (dlS q.S q.P n (j / 64) == (1, (c : Int), 0)) := by
        unfold fullB dlS bareB
        have hj' : j / 64 < n := by omega
        rcases hg.cases (i := j / 64) hj' with e | ⟨d, d1, d2, e⟩ | ⟨k, _, _, _, e⟩ | e
        · rw [e]; simp
        · rw [e]
          cases hcn : (cntR q.P (64 * (j / 64)) (64 * (j / 64) + 64) == 0) with
          | true => simp [hj']
          | false =>
            simp [hj']
            rw [Bool.eq_iff_iff]
            simp
        · rw [e]; simp
        · rw [e]; simp
      rw [this]
      simp [hj, show j / 64 < n from by omega]
    · simp [hj, show ¬ j / 64 < n from by omega]
  · exact hP
  · exact hM
  · exact hR
  · exact hL
end Go.Proofs.YtjbbkeoolodeaabDoor
namespace Go.Proofs.YtjbbkeoolodeaabDoor
open Go.RowKit
set_option linter.unusedVariables false
set_option linter.unusedSimpArgs false

theorem cnt_pos {S : Nat → Bool} {a : Nat} (hS : S a = true) (b : Nat) (h : a < b) : cnt S b ≠ 0 := fun h0 => by
  have := cnt_none h0 a h
  rw [hS] at this; cases this
theorem dls_same {S : Nat → Int × Int × Int} {P : Nat → Bool} {m p : Nat} (h : (S p).1 ≠ 1) : dlS S P m p = S p := by
  unfold dlS bareB
  simp [h]
theorem good_dls {n m : Nat} {S : Nat → Int × Int × Int} {P : Nat → Bool} (hg : Good n S) : Good n (dlS S P m) := by
  intro i hi
  unfold PgOk
  rcases hg i hi with e | ⟨c, c1, c2, e⟩ | ⟨k, k1, k2, k3, e, k4⟩ | ⟨e, h, k, h1, h2, h3⟩
  · exact .inl (by rw [dls_same (by rw [e]; simp), e])
  · unfold dlS
    cases hb : (decide (i < m) && bareB S P i) with
    | true => exact .inl (by simp)
    | false => exact .inr (.inl ⟨c, c1, c2, by simp [e]⟩)
  · refine .inr (.inr (.inl ⟨k, k1, k2, k3, by rw [dls_same (by rw [e]; simp), e], fun j j1 j2 => ?_⟩))
    have := k4 j j1 j2
    rw [dls_same (by rw [this]; simp), this]
  · exact .inr (.inr (.inr ⟨by rw [dls_same (by rw [e]; simp), e], h, k, h1, h2, by rw [dls_same (by rw [h3]; simp), h3]⟩))
theorem inv_keep {n : Nat} {st : Sp} {l : List Int} (hI : Inv n st) : Inv n (keepSp n st l) := by
  obtain ⟨kp, hkp⟩ : ∃ kp, kpS l = kp := ⟨_, rfl⟩
  obtain ⟨e1, e2, e3⟩ := ln_parts n (kpSp1 n st (kpS l)) 8
  have hS : (keepSp n st l).S = dlS (kpS1 n st kp) (ob n { st with O := kpO st kp }) n := by rw [← hkp]; exact e1
  have hO : (keepSp n st l).O = kpO st kp := by rw [← hkp]; exact e2
  have hL : (keepSp n st l).last = st.last := e3
  have hg := good_kp (kp := kp) hI
  have hk : ∀ a, hasB (kpO st kp a) = true → hasB (st.O a) = true ∧ kp a = true ∧ kpO st kp a = st.O a := fun a h => by
    rw [kp_has, Bool.and_eq_true] at h
    exact ⟨h.1, h.2, by unfold kpO; rw [if_pos h.2]⟩
  -- the page of a kept object is as it was
  have hpg : ∀ a, hasB (kpO st kp a) = true → a < 64 * n → dlS (kpS1 n st kp) (ob n { st with O := kpO st kp }) n (a / 64) = st.S (a / 64) := fun a h ha => by
    obtain ⟨h1, h2, h3⟩ := hk a h
    have hng : goneP (rawOf n st) kp (64 * n) (a / 64) = false := by
      cases eg : goneP (rawOf n st) kp (64 * n) (a / 64) with
      | false => rfl
      | true =>
        obtain ⟨a', b, g1, g2, g3, g4, g5, g6⟩ := goneP_iff.1 eg
        obtain ⟨rfl, gh⟩ := obM_of g3
        have gk : kp a' = false := by unfold goneB at g2; rw [Bool.and_eq_true] at g2; simpa using g2.2
        have gP : (rawOf n st).P a' = true := by unfold goneB at g2; rw [Bool.and_eq_true] at g2; exact g2.1
        have aP : (rawOf n st).P a = true := by show ob n st a = true; unfold ob; simp [ha, h1]
        obtain ⟨_, _, i3⟩ := hI.objs a' gh
        rcases i3 with ⟨i3, _⟩ | ⟨_, i4, i5⟩
        · omega
        have hr : roomN (st.O a').2.1 = (((st.O a').2.1 + 63) / 64).toNat * 64 := by unfold roomN; rw [if_pos g4]
        by_cases hlt : a' < a
        · have := (rooms_of hI a' _ gP g3).2.2.2 a hlt aP
          omega
        · by_cases he : a' = a
          · subst he; rw [h2] at gk; cases gk
          · omega
    unfold dlS kpS1
    rw [hng]
    have hc : cntR (ob n { st with O := kpO st kp }) (64 * (a / 64)) (64 * (a / 64) + 64) ≠ 0 := by
      unfold cntR
      refine cnt_pos (a := a) ?_ _ (by omega)
      show (decide (64 * (a / 64) ≤ a) && (decide (a < 64 * n) && hasB (kpO st kp a))) = true
      rw [h]; simp; omega
    have hb : bareB (fun q => if goneP (rawOf n st) kp (64 * n) q = true then (0, 0, 0) else st.S q) (ob n { st with O := kpO st kp }) (a / 64) = false := by
      unfold bareB
      simp [hc]
    rw [hb]; simp
  refine ⟨hI.n1, hI.n2, ?_, ?_, ?_, ?_, ?_, ?_, ?_⟩
  · rw [hS]; exact good_dls hg
  · rw [hO, hS]
    intro a h
    obtain ⟨h1, h2, h3⟩ := hk a h
    have ho := hI.objs a h1
    rw [h3]
    refine ⟨ho.1, ho.2.1, ?_⟩
    rw [hpg a h ho.1]
    exact ho.2.2
  · rw [hO]
    intro a h
    unfold kpO at *
    cases hka : kp a with
    | true => rw [hka] at h; exact hI.none a h
    | false => rfl
  · rw [hO, hS]
    intro p hp h
    have h2 : (kpS1 n st kp p).1 = 2 := by
      unfold dlS at h
      cases hb : (decide (p < n) && bareB (kpS1 n st kp) (ob n { st with O := kpO st kp }) p) with
      | true => rw [hb] at h; simp at h
      | false => rw [hb] at h; simpa using h
    cases hgp : goneP (rawOf n st) kp (64 * n) p with
    | true => unfold kpS1 at h2; rw [hgp] at h2; simp at h2
    | false =>
      have h3 : (st.S p).1 = 2 := by unfold kpS1 at h2; rw [hgp] at h2; simpa using h2
      have hh := hI.heads p hp h3
      rw [kp_has, hh]
      cases hka : kp (64 * p) with
      | true => rfl
      | false =>
        exfalso
        have hP : (rawOf n st).P (64 * p) = true := by show ob n st (64 * p) = true; unfold ob; simp [hh]; omega
        obtain ⟨b, hb⟩ := told_of st (64 * p) hP
        obtain ⟨rfl, _⟩ := obM_of hb
        obtain ⟨_, _, i3⟩ := hI.objs (64 * p) hh
        rw [show 64 * p / 64 = p from by omega] at i3
        rcases i3 with ⟨_, i4, _⟩ | ⟨i4, _, i5⟩
        · rw [i4] at h3; simp at h3
        · have := (goneP_iff (r := rawOf n st) (kp := kp) (p := 64 * n) (q := p)).2 ⟨64 * p, _, (by omega : 64 * p < 64 * n), (by unfold goneB; rw [hP, hka]; rfl), hb, i4, (by omega : 64 * p / 64 ≤ p), (by omega : p < 64 * p / 64 + (((st.O (64 * p)).2.1 + 63) / 64).toNat)⟩
          rw [hgp] at this; cases this
  · rw [hL]; exact hI.last0
  · rw [hO, hL]
    intro a h
    obtain ⟨h1, h2, h3⟩ := hk a h
    rw [h3]
    exact hI.ser a h1
  · rw [hO]
    intro a b ha hb
    obtain ⟨h1, h2, h3⟩ := hk a ha
    obtain ⟨g1, g2, g3⟩ := hk b hb
    rw [h3, g3]
    exact hI.one a b h1 g1
/-- Keep, of a space -/
theorem spKeep_any {w : World} {lo hi n cap : Nat} {s : Nat → Nat} {st : Sp} (h : SpAt w lo hi s n cap st) {l : List Int} {p : Option Addr} {cp : Nat} (hl : IntsIs w p l) (hll : (l.length : Int) < 9223372036854775807) :
    Calls Tryd.prog 42 #[.pointer (some ⟨s 14, 0, none⟩), .slice p l.length cp] w fun e w' => Out lo hi w w' ∧
      (((∀ a ∈ l, (obM st a).isSome = true) ∧ e = .returned (.tuple #[.int .i64 ((freedTo (rawOf n st) (kpS l) (64 * n) : Nat) : Int), .int .i64 0]) ∧ SpAt w' lo hi s n cap (keepSp n st l)) ∨
       ((∃ a ∈ l, obM st a = none) ∧ e = .returned (.tuple #[.int .i64 0, .int .i64 22]) ∧ SpAt w' lo hi s n cap st)) := by
  refine (keep_any h.1 (told_of st) (rooms_of h.2) (mIn_of h.2) hl hll).mono ?_
  rintro e w' ⟨o, ⟨h1, h2, h3⟩ | ⟨h1, h2, h3⟩⟩
  · exact ⟨o, .inl ⟨h1, h2, by rw [keep_raw h.2] at h3; exact h3, inv_keep h.2⟩⟩
  · exact ⟨o, .inr ⟨h1, h2, h3, h.2⟩⟩
end Go.Proofs.YtjbbkeoolodeaabDoor
