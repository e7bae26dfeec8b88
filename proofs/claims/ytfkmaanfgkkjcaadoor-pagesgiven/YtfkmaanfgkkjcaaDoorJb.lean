/- PagesLowest: numbers -/
import Derived.Test.YtfkmaanfgkkjcaaDoorJa
namespace Go.Proofs.YtfkmaanfgkkjcaaDoor
open Go.RowKit
set_option linter.unusedVariables false
set_option linter.unusedSimpArgs false

/-- going down: the least row above p -/
def LowInv (S : Nat → Int × Int × Int) (N K : Nat) (p : Int) (q : Option Nat) : Prop :=
  p + K ≤ N ∧ -16 ≤ p ∧ (∀ r, q = some r → p < r ∧ r + K ≤ N ∧ allF S r K = true ∧ ∀ s : Nat, p < s → s < r → allF S s K = false) ∧ (q = none → ∀ s : Nat, p < s → s + K ≤ N → allF S s K = false)
theorem LowInv.start (S : Nat → Int × Int × Int) (N K : Nat) (h : K ≤ 16) : LowInv S N K ((N : Int) - K) none := ⟨by omega, by omega, fun r h => (by cases h), fun _ s h1 h2 => (by omega)⟩
theorem LowInv.yes {S : Nat → Int × Int × Int} {N K p : Nat} {q : Option Nat} (h : LowInv S N K p q) (ha : allF S p K = true) : LowInv S N K ((p : Int) - 1) (some p) := by
  obtain ⟨h1, h2, h3, h4⟩ := h
  refine ⟨by omega, by omega, fun r e => ?_, fun e => by cases e⟩
  cases e
  exact ⟨by omega, by omega, ha, fun s s1 s2 => by omega⟩
theorem LowInv.no {S : Nat → Int × Int × Int} {N K p : Nat} {q : Option Nat} (h : LowInv S N K p q) (ha : allF S p K = false) : LowInv S N K ((p : Int) - 1) q := by
  obtain ⟨h1, h2, h3, h4⟩ := h
  refine ⟨by omega, by omega, fun r e => ?_, fun e s s1 s2 => ?_⟩
  · obtain ⟨r1, r2, r3, r4⟩ := h3 r e
    refine ⟨by omega, r2, r3, fun s s1 s2 => ?_⟩
    by_cases es : s = p
    · rw [es]; exact ha
    · exact r4 s (by omega) s2
  · by_cases es : s = p
    · rw [es]; exact ha
    · exact h4 e s (by omega) s2
theorem LowInv.done {S : Nat → Int × Int × Int} {N K : Nat} {p : Int} {q : Option Nat} (h : LowInv S N K p q) (hp : p < 0) (hK : 1 ≤ K) : rowF S N K = q := by
  obtain ⟨h1, h2, h3, h4⟩ := h
  cases q with
  | none => exact rowF_no fun s hs => h4 rfl s (by omega) hs
  | some r =>
    obtain ⟨r1, r2, r3, r4⟩ := h3 r rfl
    exact rowF_of hK r2 r3 (fun s hs => r4 s (by omega) hs)
def wantI (q : Option Nat) : Int := match q with | some r => r | none => -1
theorem allF_zero (S : Nat → Int × Int × Int) (p : Nat) : allF S p 0 = true := rfl
theorem allF_succ (S : Nat → Int × Int × Int) (p i : Nat) : allF S p (i + 1) = (allF S p i && freeB (S (p + i))) := by
  unfold allF
  rw [List.range_succ, List.all_append]
  simp
/-- how many are free behind a row is taken -/
theorem cnt_put (S T : Nat → Int × Int × Int) (n p k : Nat) (h1 : ∀ j, j < n → (j < p ∨ p + k ≤ j) → T j = S j) (h2 : ∀ j, p ≤ j → j < p + k → freeB (S j) = true ∧ freeB (T j) = false) : ∀ m, m ≤ n → cntF T m + (if m ≤ p then 0 else min (m - p) k) = cntF S m := by
  intro m
  induction m with
  | zero => intro _; rw [if_pos (Nat.zero_le _)]; rfl
  | succ m ih =>
    intro hm
    have := ih (by omega)
    rw [cntF_succ, cntF_succ]
    by_cases hin : p ≤ m ∧ m < p + k
    · obtain ⟨a, b⟩ := h2 m hin.1 hin.2
      rw [a, b]
      simp only [if_true, Bool.false_eq_true, if_false]
      rw [if_neg (show ¬ (m + 1 ≤ p) by omega)]
      by_cases e : m ≤ p
      · rw [if_pos e] at this; omega
      · rw [if_neg e] at this; omega
    · rw [h1 m (by omega) (by omega)]
      generalize (if freeB (S m) = true then 1 else 0) = f
      by_cases e : m ≤ p
      · rw [if_pos e] at this
        by_cases e2 : m + 1 ≤ p
        · rw [if_pos e2]; omega
        · rw [if_neg e2]; omega
      · rw [if_neg e] at this
        rw [if_neg (show ¬ (m + 1 ≤ p) by omega)]
        omega
theorem cnt_row {S : Nat → Int × Int × Int} {N K r : Nat} (hK : 1 ≤ K) (hr : r + K ≤ N) (hf : ∀ j, r ≤ j → j < r + K → S j = (0, 0, 0)) : cntF (setR S r K) N + K = cntF S N := by
  have := cnt_put S (setR S r K) N r K (fun j _ hj => by unfold setR; rw [if_neg (by omega), if_neg (by omega)]) (fun j j1 j2 => ⟨by rw [hf j j1 j2]; rfl, by
    unfold setR
    by_cases e : j = r
    · rw [if_pos e]; rfl
    · rw [if_neg e, if_pos ⟨by omega, j2⟩]; rfl⟩) N (Nat.le_refl _)
  rw [if_neg (by omega)] at this
  omega
theorem cnt_class {S : Nat → Int × Int × Int} {N r : Nat} {c : Int} (hr : r < N) (hf : S r = (0, 0, 0)) : cntF (setC S r c) N + 1 = cntF S N := by
  have := cnt_put S (setC S r c) N r 1 (fun j _ hj => by unfold setC; rw [if_neg (by omega)]) (fun j j1 j2 => by
    have e : j = r := by omega
    rw [e]
    exact ⟨by rw [hf]; rfl, by unfold setC; rw [if_pos rfl]; rfl⟩) N (Nat.le_refl _)
  rw [if_neg (by omega)] at this
  omega
theorem tr_none {S : Nat → Int × Int × Int} {N K : Nat} (h1 : 1 ≤ K) (h2 : K ≤ 16) (h : rowF S N K = none) : trP S N (K : Int) = 0 ∧ trE S N (K : Int) = 20 ∧ trS S N (K : Int) = S := by
  have hb : runB (K : Int) = true := by unfold runB; simp; omega
  unfold trP trE trS
  rw [if_pos hb, if_pos hb, if_pos hb, show ((K : Nat) : Int).toNat = K from by omega, h]
  exact ⟨rfl, rfl, rfl⟩
theorem tr_some {S : Nat → Int × Int × Int} {N K r : Nat} (h1 : 1 ≤ K) (h2 : K ≤ 16) (h : rowF S N K = some r) : trP S N (K : Int) = r ∧ trE S N (K : Int) = 0 ∧ trS S N (K : Int) = setR S r K := by
  have hb : runB (K : Int) = true := by unfold runB; simp; omega
  unfold trP trE trS
  rw [if_pos hb, if_pos hb, if_pos hb, show ((K : Nat) : Int).toNat = K from by omega, h]
  exact ⟨rfl, rfl, rfl⟩
theorem tc_none {S : Nat → Int × Int × Int} {N j : Nat} (h2 : j < 8) (h : rowF S N 1 = none) : tcP S N (j : Int) = 0 ∧ tcE S N (j : Int) = 20 ∧ tcS S N (j : Int) = S := by
  have hb : classB (j : Int) = true := by unfold classB; simp; omega
  unfold tcP tcE tcS
  rw [if_pos hb, if_pos hb, if_pos hb, h]
  exact ⟨rfl, rfl, rfl⟩
theorem tc_some {S : Nat → Int × Int × Int} {N j r : Nat} (h2 : j < 8) (h : rowF S N 1 = some r) : tcP S N (j : Int) = r ∧ tcE S N (j : Int) = 0 ∧ tcS S N (j : Int) = setC S r j := by
  have hb : classB (j : Int) = true := by unfold classB; simp; omega
  unfold tcP tcE tcS
  rw [if_pos hb, if_pos hb, if_pos hb, h]
  exact ⟨rfl, rfl, rfl⟩
/-- a list beside a step of a table -/
theorem SliceIs.beside {w w' : World} {g n cap lo hi : Nat} {l : List (Int × Int × Int)} (h : SliceIs w (.slice (some ⟨g, 0, none⟩) n cap) l) (o : Out lo hi w w') (hd : g < lo ∨ hi ≤ g) : SliceIs w' (.slice (some ⟨g, 0, none⟩) n cap) l := by
  obtain ⟨a, c, e, hr⟩ := h
  refine ⟨a, c, e, fun h0 => ?_⟩
  obtain ⟨x, x0, x1, x2⟩ := hr h0
  subst x0
  simp only [Value.slice.injEq, Option.some.injEq, Addr.mk.injEq, and_true, true_and] at e
  obtain ⟨rfl, _⟩ := e
  exact ⟨g, rfl, Nat.lt_of_lt_of_le x1 o.size, fun i p hp => (x2 i p hp).kept o hd⟩
theorem SliceIs.at {w : World} {g n cap : Nat} {S : Nat → Int × Int × Int} (h : SliceIs w (.slice (some ⟨g, 0, none⟩) n cap) (pgl S n)) {i : Nat} (hi : i < n) : PgAt w g i (S i) := by
  obtain ⟨a, c, e, hr⟩ := h
  obtain ⟨x, x0, x1, x2⟩ := hr (by rw [pgl_len]; omega)
  subst x0
  simp only [Value.slice.injEq, Option.some.injEq, Addr.mk.injEq, and_true, true_and] at e
  obtain ⟨rfl, _⟩ := e
  exact x2 i _ (pgl_at S hi)
end Go.Proofs.YtfkmaanfgkkjcaaDoor
