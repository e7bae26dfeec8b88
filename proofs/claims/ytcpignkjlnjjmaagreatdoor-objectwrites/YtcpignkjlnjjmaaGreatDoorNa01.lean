import Derived.Test.YtcpignkjlnjjmaaGreatDoorNa00
namespace Go.Proofs.YtcpignkjlnjjmaaGreatDoor
open Go.RowKit
set_option linter.unusedVariables false
set_option linter.unusedSimpArgs false

/-! the numbers: a page is its kind, its class, its run -/
def fld (p : Int × Int × Int) (j : Nat) : Int := if j = 0 then p.1 else if j = 1 then p.2.1 else p.2.2
def freeB (p : Int × Int × Int) : Bool := p.1 == 0
/-- what page i of n may be -/
def PgOk (n : Nat) (S : Nat → Int × Int × Int) (i : Nat) : Prop :=
  S i = (0, 0, 0) ∨ (∃ c : Int, 0 ≤ c ∧ c ≤ 7 ∧ S i = (1, c, 0)) ∨ (∃ k : Nat, 1 ≤ k ∧ k ≤ 16 ∧ i + k ≤ n ∧ S i = (2, 0, (k : Int)) ∧ ∀ j, i < j → j < i + k → S j = (3, 0, 0)) ∨
    (S i = (3, 0, 0) ∧ ∃ h k : Nat, h < i ∧ i < h + k ∧ S h = (2, 0, (k : Int)))
def Good (n : Nat) (S : Nat → Int × Int × Int) : Prop := ∀ i, i < n → PgOk n S i
theorem good_free (n : Nat) : Good n (fun _ => (0, 0, 0)) := fun _ _ => .inl rfl
theorem Good.free {n i : Nat} {S : Nat → Int × Int × Int} (h : Good n S) (hi : i < n) (hf : freeB (S i) = true) : S i = (0, 0, 0) := by
  unfold freeB at hf
  rcases h i hi with e | ⟨c, _, _, e⟩ | ⟨k, _, _, _, e, _⟩ | ⟨e, _⟩
  · exact e
  all_goals (rw [e] at hf; simp at hf)
/-- the shapes of a page, and no more -/
theorem Good.cases {n i : Nat} {S : Nat → Int × Int × Int} (h : Good n S) (hi : i < n) :
    S i = (0, 0, 0) ∨ (∃ c : Int, 0 ≤ c ∧ c ≤ 7 ∧ S i = (1, c, 0)) ∨ (∃ k : Nat, 1 ≤ k ∧ k ≤ 16 ∧ i + k ≤ n ∧ S i = (2, 0, (k : Int))) ∨ S i = (3, 0, 0) := by
  rcases h i hi with e | e | ⟨k, k1, k2, k3, e, _⟩ | ⟨e, _⟩
  · exact .inl e
  · exact .inr (.inl e)
  · exact .inr (.inr (.inl ⟨k, k1, k2, k3, e⟩))
  · exact .inr (.inr (.inr e))
/-- n pages from p on, all free -/
def allF (S : Nat → Int × Int × Int) (p n : Nat) : Bool := (List.range n).all fun i => freeB (S (p + i))
theorem allF_iff {S : Nat → Int × Int × Int} {p n : Nat} : allF S p n = true ↔ ∀ j, p ≤ j → j < p + n → freeB (S j) = true := by
  unfold allF
  rw [List.all_eq_true]
  constructor
  · intro h j h1 h2
    have := h (j - p) (by simp; omega)
    rwa [show p + (j - p) = j from by omega] at this
  · intro h x hx
    simp at hx
    exact h _ (by omega) (by omega)
/-- the lowest row of k free pages -/
def rowF (S : Nat → Int × Int × Int) (n k : Nat) : Option Nat := (List.range n).find? fun p => decide (p + k ≤ n) && allF S p k
theorem find_range_some {f : Nat → Bool} {n p : Nat} (hp : p < n) (hf : f p = true) (hl : ∀ q, q < p → f q = false) : (List.range n).find? f = some p := by
  rw [List.find?_range_eq_some]
  exact ⟨hf, by simpa using hp, fun j hj => by simp [hl j hj]⟩
theorem find_range_none {f : Nat → Bool} {n : Nat} (hl : ∀ q, q < n → f q = false) : (List.range n).find? f = none := by
  rw [List.find?_eq_none]
  intro x hx
  simp at hx
  simp [hl x hx]
theorem rowF_some {S : Nat → Int × Int × Int} {n k p : Nat} (h : rowF S n k = some p) : p < n ∧ p + k ≤ n ∧ allF S p k = true ∧ ∀ q, q < p → q + k ≤ n → allF S q k = false := by
  unfold rowF at h
  rw [List.find?_range_eq_some] at h
  obtain ⟨h1, h2, h3⟩ := h
  simp at h1 h2
  refine ⟨h2, h1.1, h1.2, fun q hq hk => ?_⟩
  have := h3 q hq
  simp [hk] at this
  exact this
theorem rowF_none {S : Nat → Int × Int × Int} {n k : Nat} (h : rowF S n k = none) (h1 : 1 ≤ k) : ∀ q, q + k ≤ n → allF S q k = false := by
  unfold rowF at h
  rw [List.find?_eq_none] at h
  intro q hq
  have := h q (by simp; omega)
  simp [hq] at this
  exact this
theorem rowF_of {S : Nat → Int × Int × Int} {n k p : Nat} (h1 : 1 ≤ k) (h2 : p + k ≤ n) (h3 : allF S p k = true) (h4 : ∀ q, q < p → allF S q k = false) : rowF S n k = some p :=
  find_range_some (by omega) (by simp [h2, h3]) (fun q hq => by simp [h4 q hq])
theorem rowF_no {S : Nat → Int × Int × Int} {n k : Nat} (h4 : ∀ q, q + k ≤ n → allF S q k = false) : rowF S n k = none :=
  find_range_none (fun q hq => by by_cases h : q + k ≤ n <;> simp [h]; exact h4 q h)
/-- going up: i pages seen, the last f of them free and no more, no row yet -/
def RowInv (S : Nat → Int × Int × Int) (k i f : Nat) : Prop :=
  f ≤ i ∧ f < k ∧ (∀ j, i - f ≤ j → j < i → freeB (S j) = true) ∧ (f = i ∨ freeB (S (i - f - 1)) = false) ∧ ∀ q, q + k ≤ i → allF S q k = false
theorem RowInv.start (S : Nat → Int × Int × Int) {k : Nat} (h : 1 ≤ k) : RowInv S k 0 0 := ⟨Nat.le_refl _, h, fun j _ h2 => by omega, .inl rfl, fun q hq => by omega⟩
theorem not_all {S : Nat → Int × Int × Int} {p n j : Nat} (h1 : p ≤ j) (h2 : j < p + n) (h : freeB (S j) = false) : allF S p n = false := by
  cases e : allF S p n with
  | false => rfl
  | true => rw [allF_iff.1 e j h1 h2] at h; cases h
theorem RowInv.taken {S : Nat → Int × Int × Int} {k i f : Nat} (h : RowInv S k i f) (hi : freeB (S i) = false) : RowInv S k (i + 1) 0 := by
  obtain ⟨h1, h2, h3, h4, h5⟩ := h
  refine ⟨by omega, by omega, fun j _ _ => by omega, .inr (by simpa using hi), fun q hq => ?_⟩
  by_cases e : q + k ≤ i
  · exact h5 q e
  · exact not_all (j := i) (by omega) (by omega) hi
theorem RowInv.more {S : Nat → Int × Int × Int} {k i f : Nat} (h : RowInv S k i f) (hi : freeB (S i) = true) (hf : f + 1 ≠ k) : RowInv S k (i + 1) (f + 1) := by
  obtain ⟨h1, h2, h3, h4, h5⟩ := h
  refine ⟨by omega, by omega, fun j j1 j2 => ?_, ?_, fun q hq => ?_⟩
  · by_cases e : j = i
    · rw [e]; exact hi
    · exact h3 j (by omega) (by omega)
  · rcases h4 with e | e
    · left; omega
    · right; rw [show i + 1 - (f + 1) - 1 = i - f - 1 from by omega]; exact e
  · by_cases e : q + k ≤ i
    · exact h5 q e
    · rcases h4 with e4 | e4
      · omega
      · by_cases e5 : f = i
        · omega
        · exact not_all (j := i - f - 1) (by omega) (by omega) e4
theorem RowInv.found {S : Nat → Int × Int × Int} {k i f n : Nat} (h : RowInv S k i f) (hi : freeB (S i) = true) (hf : f + 1 = k) (hn : i < n) : rowF S n k = some (i - f) := by
  obtain ⟨h1, h2, h3, h4, h5⟩ := h
  refine rowF_of (by omega) (by omega) (allF_iff.2 fun j j1 j2 => ?_) (fun q hq => h5 q (by omega))
  by_cases e : j = i
  · rw [e]; exact hi
  · exact h3 j j1 (by omega)
theorem RowInv.none {S : Nat → Int × Int × Int} {k i f : Nat} (h : RowInv S k i f) : rowF S i k = none := rowF_no h.2.2.2.2
/-! what the calls answer, and what the pages are behind them -/
def classB (c : Int) : Bool := decide (0 ≤ c) && decide (c ≤ 7)
def runB (k : Int) : Bool := decide (1 ≤ k) && decide (k ≤ 16)
def setC (S : Nat → Int × Int × Int) (p : Nat) (c : Int) : Nat → Int × Int × Int := fun j => if j = p then (1, c, 0) else S j
def setR (S : Nat → Int × Int × Int) (p k : Nat) : Nat → Int × Int × Int := fun j => if j = p then (2, 0, (k : Int)) else if p < j ∧ j < p + k then (3, 0, 0) else S j
def setF (S : Nat → Int × Int × Int) (p k : Nat) : Nat → Int × Int × Int := fun j => if p ≤ j ∧ j < p + k then (0, 0, 0) else S j
def tcP (S : Nat → Int × Int × Int) (n : Nat) (c : Int) : Nat := if classB c then (rowF S n 1).getD 0 else 0
def tcE (S : Nat → Int × Int × Int) (n : Nat) (c : Int) : Int := if classB c then (if (rowF S n 1).isSome then 0 else 20) else 1
def tcS (S : Nat → Int × Int × Int) (n : Nat) (c : Int) : Nat → Int × Int × Int := if classB c then (match rowF S n 1 with | some p => setC S p c | none => S) else S
def trP (S : Nat → Int × Int × Int) (n : Nat) (k : Int) : Nat := if runB k then (rowF S n k.toNat).getD 0 else 0
def trE (S : Nat → Int × Int × Int) (n : Nat) (k : Int) : Int := if runB k then (if (rowF S n k.toNat).isSome then 0 else 20) else 1
def trS (S : Nat → Int × Int × Int) (n : Nat) (k : Int) : Nat → Int × Int × Int := if runB k then (match rowF S n k.toNat with | some p => setR S p k.toNat | none => S) else S
def inB (n : Nat) (i : Int) : Bool := decide (0 ≤ i) && decide (i < n)
def lenP (p : Int × Int × Int) : Nat := if p.1 = 2 then p.2.2.toNat else 1
def giveB (S : Nat → Int × Int × Int) (n : Nat) (i : Int) : Bool := inB n i && ((S i.toNat).1 == 1 || (S i.toNat).1 == 2)
def gvE (S : Nat → Int × Int × Int) (n : Nat) (i : Int) : Int := if giveB S n i then 0 else 1
def gvS (S : Nat → Int × Int × Int) (n : Nat) (i : Int) : Nat → Int × Int × Int := if giveB S n i then setF S i.toNat (lenP (S i.toNat)) else S
def stP (S : Nat → Int × Int × Int) (n : Nat) (i : Int) : Int × Int × Int := if inB n i then S i.toNat else (0, 0, 0)
def cntF (S : Nat → Int × Int × Int) (n : Nat) : Nat := ((List.range n).filter fun i => freeB (S i)).length
theorem cntF_succ (S : Nat → Int × Int × Int) (n : Nat) : cntF S (n + 1) = cntF S n + (if freeB (S n) then 1 else 0) := by
  unfold cntF
  rw [List.range_succ, List.filter_append, List.length_append]
  cases h : freeB (S n) <;> simp [h]
theorem cntF_le (S : Nat → Int × Int × Int) (n : Nat) : cntF S n ≤ n := by
  unfold cntF
  have := List.length_filter_le (fun i => freeB (S i)) (List.range n)
  simpa using this
/-! they stay pages -/
theorem good_setC {n p : Nat} {S : Nat → Int × Int × Int} {c : Int} (h : Good n S) (hp : S p = (0, 0, 0)) (h0 : 0 ≤ c) (h7 : c ≤ 7) : Good n (setC S p c) := by
  intro i hi
  unfold setC
  by_cases e : i = p
  · exact .inr (.inl ⟨c, h0, h7, by simp [e]⟩)
  · rcases h i hi with e1 | ⟨c', a, b, e1⟩ | ⟨k, k1, k2, k3, e1, hr⟩ | ⟨e1, a, k, ha, hk, e2⟩
    · exact .inl (by simp [e, e1])
    · exact .inr (.inl ⟨c', a, b, by simp [e, e1]⟩)
    · refine .inr (.inr (.inl ⟨k, k1, k2, k3, by simp [e, e1], fun j j1 j2 => ?_⟩))
      have := hr j j1 j2
      by_cases ej : j = p
      · rw [ej, hp] at this; simp at this
      · simp [ej, this]
    · refine .inr (.inr (.inr ⟨by simp [e, e1], a, k, ha, hk, ?_⟩))
      by_cases ej : a = p
      · rw [ej, hp] at e2; simp at e2
      · simp [ej, e2]
theorem good_setR {n p k : Nat} {S : Nat → Int × Int × Int} (h : Good n S) (hp : ∀ j, p ≤ j → j < p + k → S j = (0, 0, 0)) (h1 : 1 ≤ k) (h2 : k ≤ 16) (h3 : p + k ≤ n) : Good n (setR S p k) := by
  have out : ∀ j, (j < p ∨ p + k ≤ j) → setR S p k j = S j := by
    intro j hj
    unfold setR
    rw [if_neg (by omega), if_neg (by omega)]
  have hd : setR S p k p = (2, 0, (k : Int)) := by unfold setR; rw [if_pos rfl]
  have hr : ∀ j, p < j → j < p + k → setR S p k j = (3, 0, 0) := by
    intro j a b
    unfold setR
    rw [if_neg (by omega), if_pos ⟨a, b⟩]
  have nz : ∀ j, S j ≠ (0, 0, 0) → j < p ∨ p + k ≤ j := by
    intro j hj
    by_cases e : j < p ∨ p + k ≤ j
    · exact e
    · exact absurd (hp j (by omega) (by omega)) hj
  intro i hi
  by_cases e : i = p
  · subst e
    exact .inr (.inr (.inl ⟨k, h1, h2, h3, hd, hr⟩))
  · by_cases e' : p < i ∧ i < p + k
    · exact .inr (.inr (.inr ⟨hr i e'.1 e'.2, p, k, e'.1, e'.2, hd⟩))
    · have eo := out i (by omega)
      rcases h i hi with e1 | ⟨c', a, b, e1⟩ | ⟨k', k1, k2, k3, e1, hr'⟩ | ⟨e1, a, k', ha, hk, e2⟩
      · exact .inl (by rw [eo, e1])
      · exact .inr (.inl ⟨c', a, b, by rw [eo, e1]⟩)
      · refine .inr (.inr (.inl ⟨k', k1, k2, k3, by rw [eo, e1], fun j j1 j2 => ?_⟩))
        have := hr' j j1 j2
        rw [out j (nz j (by rw [this]; simp)), this]
      · exact .inr (.inr (.inr ⟨by rw [eo, e1], a, k', ha, hk, by rw [out a (nz a (by rw [e2]; simp)), e2]⟩))
/-- what is given: a class's page, or a run -/
theorem give_cases {n p : Nat} {S : Nat → Int × Int × Int} (h : Good n S) (hp : p < n) (hk : (S p).1 = 1 ∨ (S p).1 = 2) :
    1 ≤ lenP (S p) ∧ lenP (S p) ≤ 16 ∧ p + lenP (S p) ≤ n ∧ (∀ j, p < j → j < p + lenP (S p) → S j = (3, 0, 0)) ∧ (((S p).1 = 1 ∧ lenP (S p) = 1 ∧ (S p).2.2 = 0) ∨ ((S p).1 = 2 ∧ (S p).2.2 = (lenP (S p) : Nat))) := by
  rcases h p hp with e | ⟨c, _, _, e⟩ | ⟨k, k1, k2, k3, e, hr⟩ | ⟨e, _⟩
  · rw [e] at hk; simp at hk
  · rw [e]
    have : lenP (1, c, 0) = 1 := by unfold lenP; simp
    rw [this]
    exact ⟨by omega, by omega, by omega, fun j j1 j2 => by omega, .inl ⟨rfl, rfl, rfl⟩⟩
  · rw [e]
    have : lenP (2, 0, (k : Int)) = k := by unfold lenP; simp
    rw [this]
    exact ⟨k1, k2, k3, hr, .inr ⟨rfl, rfl⟩⟩
  · rw [e] at hk; simp at hk
theorem good_give {n p : Nat} {S : Nat → Int × Int × Int} (h : Good n S) (hp : p < n) (hk : (S p).1 = 1 ∨ (S p).1 = 2) : Good n (setF S p (lenP (S p))) := by
  obtain ⟨l1, l2, l3, hrest, hkind⟩ := give_cases h hp hk
  generalize hL : lenP (S p) = L at *
  have out : ∀ j, (j < p ∨ p + L ≤ j) → setF S p L j = S j := by
    intro j hj
    unfold setF
    rw [if_neg (by omega)]
  intro i hi
  by_cases e : p ≤ i ∧ i < p + L
  · left; unfold setF; rw [if_pos e]
  · have eo := out i (by omega)
    rcases h i hi with e1 | ⟨c', a, b, e1⟩ | ⟨k', k1, k2, k3, e1, hr'⟩ | ⟨e1, a, k', ha, hk', e2⟩
    · exact .inl (by rw [eo, e1])
    · exact .inr (.inl ⟨c', a, b, by rw [eo, e1]⟩)
    · refine .inr (.inr (.inl ⟨k', k1, k2, k3, by rw [eo, e1], fun j j1 j2 => ?_⟩))
      have hj := hr' j j1 j2
      rw [out j ?_, hj]
      by_cases hp' : i < p
      · have : ¬ (p < i + k') := fun hlt => by
          have := hr' p hp' hlt
          rw [this] at hk; simp at hk
        omega
      · omega
    · refine .inr (.inr (.inr ⟨by rw [eo, e1], a, k', ha, hk', ?_⟩))
      rw [out a ?_, e2]
      by_cases ea : a < p ∨ p + L ≤ a
      · exact ea
      · exfalso
        by_cases ep : a = p
        · subst ep
          have hl2 : (S a).2.2 = (k' : Int) := by rw [e2]
          rcases hkind with ⟨q1, q2, q3⟩ | ⟨q1, q2⟩
          · rw [e2] at q1; simp at q1
          · rw [q2] at hl2
            have : L = k' := by omega
            omega
        · have := hrest a (by omega) (by omega)
          rw [e2] at this; simp at this
/-! the two variables of package pages -/
/-! pages in memory -/
def pcell (S : Nat → Int × Int × Int) (i : Nat) : Value := .int .i64 (fld (S (i / 3)) (i % 3))
def PRow (w : World) (b n : Nat) (S : Nat → Int × Int × Int) : Prop := Row w b 119 (n * 3) (pcell S)
theorem PRow.cells {w : World} {b n i : Nat} {S : Nat → Int × Int × Int} (h : PRow w b n S) (hi : i < n) :
    w.cell? ⟨b, i * 3, none⟩ = some (.int .i64 (S i).1) ∧ w.cell? ⟨b, i * 3 + 1, none⟩ = some (.int .i64 (S i).2.1) ∧ w.cell? ⟨b, i * 3 + 2, none⟩ = some (.int .i64 (S i).2.2) := by
  refine ⟨?_, ?_, ?_⟩
  · rw [Row.cell h (i := i * 3) (by omega)]
    unfold pcell
    rw [show i * 3 / 3 = i from by omega, show i * 3 % 3 = 0 from by omega]; rfl
  · rw [Row.cell h (i := i * 3 + 1) (by omega)]
    unfold pcell
    rw [show (i * 3 + 1) / 3 = i from by omega, show (i * 3 + 1) % 3 = 1 from by omega]; rfl
  · rw [Row.cell h (i := i * 3 + 2) (by omega)]
    unfold pcell
    rw [show (i * 3 + 2) / 3 = i from by omega, show (i * 3 + 2) % 3 = 2 from by omega]; rfl
def setP (S : Nat → Int × Int × Int) (p : Nat) (x : Int × Int × Int) : Nat → Int × Int × Int := fun j => if j = p then x else S j
theorem PRow.congr {w : World} {b n : Nat} {S S' : Nat → Int × Int × Int} (h : PRow w b n S) (e : ∀ i, i < n → S i = S' i) : PRow w b n S' :=
  Row.congr h fun i hi => by unfold pcell; rw [e (i / 3) (by omega)]
theorem PRow.set {w : World} {b n : Nat} {S : Nat → Int × Int × Int} (h : PRow w b n S) (i : Nat) (k c r : Int) :
    PRow (((w.setCell ⟨b, i * 3, none⟩ (.int .i64 k)).setCell ⟨b, i * 3 + 1, none⟩ (.int .i64 c)).setCell ⟨b, i * 3 + 2, none⟩ (.int .i64 r)) b n (setP S i (k, c, r)) := by
  refine Row.congr (((Row.set h (i * 3) (.int .i64 k)).set (i * 3 + 1) (.int .i64 c)).set (i * 3 + 2) (.int .i64 r)) fun j hj => ?_
  unfold pcell setP
  by_cases e : j / 3 = i
  · rw [if_pos e]
    have hm : j % 3 = 0 ∨ j % 3 = 1 ∨ j % 3 = 2 := by omega
    rcases hm with hm | hm | hm
    · rw [if_neg (by omega), if_neg (by omega), if_pos (by omega), hm]; rfl
    · rw [if_neg (by omega), if_pos (by omega), hm]; rfl
    · rw [if_pos (by omega), hm]; rfl
  · rw [if_neg e, if_neg (by omega), if_neg (by omega), if_neg (by omega)]
theorem PRow.kept {w w' : World} {b n lo hi : Nat} {S : Nat → Int × Int × Int} (h : PRow w b n S) (g : Out lo hi w w') (h2 : b < lo ∨ hi ≤ b) : PRow w' b n S := Row.kept h g h2
theorem Out.set3 {lo hi : Nat} {a w : World} (h : Out lo hi a w) {b o : Nat} (hp : (lo ≤ b ∧ b < hi) ∨ a.heap.size ≤ b) (x y z : Value) : Out lo hi a (((w.setCell ⟨b, o, none⟩ x).setCell ⟨b, o + 1, none⟩ y).setCell ⟨b, o + 2, none⟩ z) :=
  ((h.setCell (p := ⟨b, o, none⟩) hp x).setCell (p := ⟨b, o + 1, none⟩) hp y).setCell (p := ⟨b, o + 2, none⟩) hp z
/-- block b is a table (of type T) of n pages that lie in block bw -/
def TblAt (T : TypeId) (w : World) (b bw n : Nat) (S : Nat → Int × Int × Int) : Prop :=
  ∃ cap, w.heap[b]? = some (.cells #[.slice (some ⟨bw, 0, none⟩) n cap] T (0, 0)) ∧ n ≤ cap ∧ bw ≠ b ∧ 4 ≤ b ∧ 4 ≤ bw ∧ 1 ≤ n ∧ n ≤ 4096 ∧ Good n S ∧ PRow w bw n S
theorem TblAt.kept {T : TypeId} {w w' : World} {b bw n lo hi : Nat} {S : Nat → Int × Int × Int} (h : TblAt T w b bw n S) (g : Out lo hi w w') (h1 : b < lo ∨ hi ≤ b) (h2 : bw < lo ∨ hi ≤ bw) : TblAt T w' b bw n S := by
  obtain ⟨cap, hb, k1, k2, k3, k4, k5, k6, k7, hr⟩ := h
  exact ⟨cap, g.heap hb h1, k1, k2, k3, k4, k5, k6, k7, hr.kept g h2⟩
theorem TblAt.quiet {T : TypeId} {w w' : World} {b bw n : Nat} {S : Nat → Int × Int × Int} (h : TblAt T w b bw n S) (g : Out 0 0 w w') : TblAt T w' b bw n S := h.kept g (.inr (Nat.zero_le _)) (.inr (Nat.zero_le _))
theorem TblAt.cell {T : TypeId} {w : World} {b bw n : Nat} {S : Nat → Int × Int × Int} (h : TblAt T w b bw n S) : ∃ cap, w.cell? ⟨b, 0, none⟩ = some (.slice (some ⟨bw, 0, none⟩) n cap) ∧ n ≤ cap := by
  obtain ⟨cap, hb, k1, _⟩ := h
  exact ⟨cap, by simp [World.cell?, hb], k1⟩
theorem TblAt.row {T : TypeId} {w : World} {b bw n : Nat} {S : Nat → Int × Int × Int} (h : TblAt T w b bw n S) : PRow w bw n S := by obtain ⟨cap, hb, k1, k2, k3, k4, k5, k6, k7, hr⟩ := h; exact hr
theorem TblAt.good {T : TypeId} {w : World} {b bw n : Nat} {S : Nat → Int × Int × Int} (h : TblAt T w b bw n S) : Good n S := by obtain ⟨cap, hb, k1, k2, k3, k4, k5, k6, k7, hr⟩ := h; exact k7
theorem TblAt.nums {T : TypeId} {w : World} {b bw n : Nat} {S : Nat → Int × Int × Int} (h : TblAt T w b bw n S) : 1 ≤ n ∧ n ≤ 4096 ∧ 4 ≤ b ∧ 4 ≤ bw ∧ bw ≠ b ∧ b < w.heap.size ∧ bw < w.heap.size := by
  obtain ⟨cap, hb, k1, k2, k3, k4, k5, k6, k7, hr⟩ := h
  exact ⟨k5, k6, k3, k4, k2, heap_lt hb, Row.lt hr⟩
/-- other pages in the same block -/
theorem TblAt.turn {T : TypeId} {w w' : World} {b bw n : Nat} {S S' : Nat → Int × Int × Int} (h : TblAt T w b bw n S) (g : Out bw (bw + 1) w w') (hr : PRow w' bw n S') (hg : Good n S') : TblAt T w' b bw n S' := by
  obtain ⟨cap, hb, k1, k2, k3, k4, k5, k6, k7, _⟩ := h
  exact ⟨cap, g.heap hb (by omega), k1, k2, k3, k4, k5, k6, hg, hr⟩
end Go.Proofs.YtcpignkjlnjjmaaGreatDoor
namespace Go.Proofs.YtcpignkjlnjjmaaGreatDoor
open Go.RowKit
set_option linter.unusedVariables false
set_option linter.unusedSimpArgs false

theorem list_cell {w : World} {b n cap : Nat} {a : Option Addr} (c0 : w.cell? ⟨b, 0, none⟩ = some (.slice a n cap)) :
    Calls Tryz.prog 66 #[.pointer (some ⟨b, 0, none⟩)] w fun e w' => e = .returned (.slice a n cap) ∧ w' = w := by
  go_enter Tryz.func66, Tryz.ntmps66
  go_wp2
  go_ret
  exact ⟨rfl, rfl⟩
theorem PRow.page {w : World} {b n i : Nat} {S : Nat → Int × Int × Int} {x y z : Int} (h : PRow w b n S) (hi : i < n) (e : S i = (x, y, z)) :
    w.cell? ⟨b, i * 3, none⟩ = some (.int .i64 x) ∧ w.cell? ⟨b, i * 3 + 1, none⟩ = some (.int .i64 y) ∧ w.cell? ⟨b, i * 3 + 2, none⟩ = some (.int .i64 z) := by
  have := h.cells hi
  rw [e] at this
  exact this
theorem page_of (p : Int × Int × Int) : ∃ x y z, p = (x, y, z) := ⟨p.1, p.2.1, p.2.2, rfl⟩
set_option maxRecDepth 100000 in
set_option maxHeartbeats 4000000 in
theorem row_any {w : World} {b bw n cap : Nat} {S : Nat → Int × Int × Int} (c0 : w.cell? ⟨b, 0, none⟩ = some (.slice (some ⟨bw, 0, none⟩) n cap)) (hT : Tab w) (hn : 1 ≤ n ∧ n ≤ 4096) (hr : PRow w bw n S) (hg : Good n S) (k : Nat) (hk : 1 ≤ k) (hk2 : k ≤ 16) :
    Calls Tryz.prog 107 #[.pointer (some ⟨b, 0, none⟩), .int .i64 k] w fun e w' => e = .returned (.tuple #[.int .i64 ((rowF S n k).getD 0 : Nat), .bool (rowF S n k).isSome]) ∧ Out 0 0 w w' := by
  have H := hid_mk (list_cell c0)
  have HT := hid_mk hT
  have HR := hid_mk hr
  have HG := hid_mk hg
  have HN := hid_mk hn
  have HK : Hid (1 ≤ k ∧ k ≤ 16) := ⟨hk, hk2⟩
  obtain ⟨a, ha⟩ : ∃ a, rowF S n k = a := ⟨_, rfl⟩
  have HA := hid_mk ha
  rw [ha]
  clear c0 hT hr hg hn hk hk2 ha
  go_enter Tryz.func107, Tryz.ntmps107
  go_wp2_with (go_at_call 66; refine calls_same H.out ?_)
  go_loopw [6, 12] (fun x y wr => ∃ i f : Nat, i ≤ n ∧ x = .int .i64 f ∧ y = .int .i64 i ∧ RowInv S k i f ∧ Out 0 0 w wr) (fun _ y _ => n - (intOf y).toNat)
  case atStart => exact ⟨0, 0, Nat.zero_le _, rfl, rfl, RowInv.start S HK.out.1, Out.refl _ _ _⟩
  case round =>
    obtain ⟨i, f, i1, rfl, rfl, hv, ho⟩ := hrel
    have HV := hid_mk hv
    have HO := hid_mk ho
    obtain ⟨f0, f1, f2⟩ := (HT.out.quiet ho).f
    have b0 : (0 : Int) ≤ (i : Int) := by omega
    have b5 : (i : Int) ≤ 4096 := by have := HN.out; omega
    have b6 : (0 : Int) ≤ (f : Int) ∧ (f : Int) < 16 := by have := hv.2.1; have := HK.out; omega
    obtain ⟨b7, b8⟩ := b6
    by_cases hi : i < n
    · have b1 : (i : Int) < (n : Int) := by omega
      have HO2 : Hid (∀ c, Out 0 0 w (wr.alloc c)) := fun c => ho.alloc c
      obtain ⟨x, y, z, hp⟩ := page_of (S i)
      obtain ⟨q0, q1, q2⟩ := (HR.out.kept ho (.inr (Nat.zero_le _))).page hi hp
      obtain ⟨g0, g1, g2⟩ := (HT.out.quiet (ho.alloc (.cells #[.int .i64 x, .int .i64 y, .int .i64 z] 119))).f
      by_cases hf : freeB (S i) = true
      · have e := HG.out.free hi hf
        rw [hp] at e
        cases e
        by_cases hk : f + 1 = k
        · have hres := hv.found hf hk hi
          rw [HA.out] at hres
          subst hres
          have HE : Hid (f ≤ i) := hv.1
          subst hk
          clear hv ho hp hf HV HO
          go_wp2
          go_ret2
          refine ⟨ret_ib ?_ rfl, HO2.out _⟩
          show ((i : Int) + 1 - ((f : Int) + 1)) = ((i - f : Nat) : Int)
          have := HE.out
          omega
        · have HV2 := hid_mk (hv.more hf hk)
          have ek : ((f : Int) + 1 == (k : Int)) = false := by simp; omega
          clear hv ho hp hf HV HO hk
          go_wp2
          go_roundw
          case rel => exact ⟨i + 1, f + 1, by omega, by go_num, by go_num, HV2.out, HO2.out _⟩
          case measure => simp [intOf]; omega
      · have hf' : freeB (S i) = false := by simpa using hf
        have HV2 := hid_mk (hv.taken hf')
        have hx : (x == 0) = false := by have := hf'; rw [hp] at this; exact this
        clear hv ho hp hf HV HO hf'
        go_wp2
        go_roundw
        case rel => exact ⟨i + 1, 0, by omega, by go_num, by go_num, HV2.out, HO2.out _⟩
        case measure => simp [intOf]; omega
    · have : i = n := by omega
      subst this
      have hres := hv.none
      rw [HA.out] at hres
      subst hres
      clear hv ho hi HV
      go_wp2
      go_ret2
      exact ⟨rfl, HO.out⟩
end Go.Proofs.YtcpignkjlnjjmaaGreatDoor
