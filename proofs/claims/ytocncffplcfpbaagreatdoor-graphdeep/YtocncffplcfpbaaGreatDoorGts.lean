/- graphs that were built node by node: as load, and as Equal, want them -/
import Derived.Test.YtocncffplcfpbaaGreatDoorGtq
import Derived.Test.YtocncffplcfpbaaGreatDoorGtr
import Derived.Test.YtocncffplcfpbaaGreatDoorGsc
namespace Go.Proofs.YtocncffplcfpbaaGreatDoor
open Go.RowKit Go.MapKept
set_option linter.unusedVariables false
set_option linter.unusedSimpArgs false

section
variable {w : World} {a : Option Addr} {ac n B : Nat} {K nf tb tc : Nat → Nat} {l : Nat → List VP}
theorem told_ga (h : Told w a ac n K nf tb tc l B) (hn : 1 ≤ n) (hl : ∀ i, i < n → (l i).length = nf i) : ∃ g, a = some ⟨g, 0, none⟩ ∧ g < w.heap.size ∧ GA w g n K (fun i => some ⟨tb i, 0, none⟩) nf tc l := by
  obtain ⟨g, cur, rfl, hB, hc, hb, -⟩ := own_cellsX h.1 (by omega)
  refine ⟨g, rfl, hb.lt, fun i hi => ⟨?_, (h.2 i hi).vs, hl i hi⟩⟩
  obtain ⟨c0, c1, c2, c3, c4⟩ := nCs_at (K := K) (nf := nf) (tb := tb) (tc := tc) hi
  exact ⟨hc _ _ c0, hc _ _ c1, hc _ _ c2, hc _ _ c3, hc _ _ c4⟩
theorem told_pgr (h : Told w a ac n K nf tb tc l B) (hn : 1 ≤ n) (hl : ∀ i, i < n → (l i).length = nf i) {ra : Option Addr} {nr : Nat} {r : List VP} (hr : VsAt w ra r) (hrl : r.length = nr) (ok : Okay n K nf l r) (hn2 : n ≤ 400000) (hr2 : nr ≤ 400000) (hra : ∀ q, ra = some q → q.block < w.heap.size) (hnf : ∀ i, i < n → nf i ≤ 100000 ∧ (K i = 8 ∨ K i = 9 → nf i = 2 ∧ 2 ≤ tc i)) :
    ∃ g, a = some ⟨g, 0, none⟩ ∧ PGr w g n K (fun i => some ⟨tb i, 0, none⟩) nf tc l ra nr r := by
  obtain ⟨g, rfl, hg, hG⟩ := told_ga h hn hl
  exact ⟨g, rfl, hG, hr, hrl, ok, hn2, hr2, hra, fun i hi => ⟨(hnf i hi).1, (hnf i hi).2, fun q hq => by cases hq; exact (h.2 i hi).lt⟩⟩
/-- values as plain numbers -/
def fl (l : List VP) : List Int := l.flatMap fun v => [v.1, v.2]
theorem fl_len (l : List VP) : (fl l).length = l.length * 2 := by
  induction l with
  | nil => rfl
  | cons a l ih => show ([a.1, a.2] ++ fl l).length = _; rw [List.length_append, ih]; simp; omega
theorem fl_at : ∀ {l : List VP} {j : Nat} {x : Int}, (fl l)[j]? = some x → ∃ i v, l[i]? = some v ∧ ((j = i * 2 ∧ x = v.1) ∨ (j = i * 2 + 1 ∧ x = v.2))
  | [], j, x, h => by simp [fl] at h
  | a :: l, 0, x, h => ⟨0, a, rfl, .inl ⟨rfl, by simp [fl] at h; exact h.symm⟩⟩
  | a :: l, 1, x, h => ⟨0, a, rfl, .inr ⟨rfl, by simp [fl] at h; exact h.symm⟩⟩
  | a :: l, j + 2, x, h => by
    have h2 : (fl l)[j]? = some x := by simpa [fl] using h
    obtain ⟨i, v, hi, hu⟩ := fl_at h2
    rcases hu with ⟨h3, h4⟩ | ⟨h3, h4⟩
    · exact ⟨i + 1, v, by simpa using hi, .inl ⟨by omega, h4⟩⟩
    · exact ⟨i + 1, v, by simpa using hi, .inr ⟨by omega, h4⟩⟩
theorem vs_is {p : Option Addr} {l : List VP} (h : VsAt w p l) (hp : ∀ q, p = some q → q.block < w.heap.size) : IsIn w w.heap.size p (fl l) := by
  rcases h with rfl | ⟨g, off, rfl, hc⟩
  · exact .inl rfl
  · refine .inr ⟨g, off, rfl, hp _ rfl, fun j x hj => ?_⟩
    obtain ⟨i, v, hi, hu⟩ := fl_at hj
    rcases hu with ⟨rfl, rfl⟩ | ⟨rfl, rfl⟩
    · exact (hc i v hi).1
    · have := (hc i v hi).2
      rwa [Nat.add_assoc] at this
def nsOf (n : Nat) (K : Nat → Nat) (l : Nat → List VP) : List (Int × Int × List Int × List Int × List Int) := (List.range n).map fun i => (((i + 1 : Nat) : Int), (K i : Int), [], fl (l i), [])
theorem told_in (h : Told w a ac n K nf tb tc l B) (hn : 1 ≤ n) (hl : ∀ i, i < n → (l i).length = nf i) {ra : Option Addr} {nr : Nat} {r : List VP} (hr : VsAt w ra r) (hrl : r.length = nr) (hra : ∀ q, ra = some q → q.block < w.heap.size) (hn2 : n ≤ 200000) (hr2 : nr ≤ 100000) (hnf : ∀ i, i < n → nf i ≤ 100000) :
    GrIn w w.heap.size a ra n nr (nsOf n K l) (fl r) := by
  obtain ⟨g, rfl, hg, hG⟩ := told_ga h hn hl
  refine ⟨by simp [nsOf], by rw [fl_len, hrl], .inr ⟨g, 0, rfl, hg, fun i x hx => ?_⟩, vs_is hr hra, ⟨by simp [nsOf]; omega, fun x hx => ?_⟩, by rw [fl_len, hrl]; omega⟩
  · unfold nsOf at hx
    rw [List.getElem?_map] at hx
    obtain ⟨j, hj, rfl⟩ := Option.map_eq_some_iff.1 hx
    have hij : i < n ∧ j = i := by
      obtain ⟨h1, h2⟩ := List.getElem?_eq_some_iff.1 hj
      simp at h1 h2
      exact ⟨h1, h2.symm⟩
    obtain ⟨hi, rfl⟩ := hij
    obtain ⟨⟨c0, c1, c2, c3, c4⟩, hv, hlen⟩ := hG j hi
    rw [Nat.zero_add]
    exact ⟨none, 0, 0, some ⟨tb j, 0, none⟩, nf j, tc j, none, 0, 0, c0, c1, c2, c3, c4, rfl, by show (fl (l j)).length = _; rw [fl_len, hlen], rfl, .inl rfl, vs_is hv (fun q hq => by cases hq; exact (h.2 j hi).lt), .inl rfl⟩
  · unfold nsOf at hx
    rw [List.mem_map] at hx
    obtain ⟨j, hj, rfl⟩ := hx
    rw [List.mem_range] at hj
    have := hl j hj
    have := hnf j hj
    refine ⟨by simp, ?_, by simp⟩
    show (fl (l j)).length ≤ _
    rw [fl_len]
    omega
end
/-- what lives is there -/
theorem okay_dom {n : Nat} {K nf : Nat → Nat} {l : Nat → List VP} {r : List VP} (ok : Okay n K nf l r) {y : Int} (h : LvG n K l r y) : 1 ≤ y ∧ y ≤ (n : Int) := by
  have hka : ∀ x : Int, kA K n x ≠ 0 → 1 ≤ x ∧ x ≤ (n : Int) := fun x hx => by
    unfold kA at hx
    split at hx
    · assumption
    · exact absurd rfl hx
  have hin : ∀ y : Int, 1 ≤ y ∧ y ≤ (n : Int) → ∀ v ∈ lI n l y, v.1 = 2 → 1 ≤ v.2 ∧ v.2 ≤ (n : Int) := fun y hy v hv e => by
    obtain ⟨i, hi, rfl⟩ : ∃ i : Nat, i < n ∧ y = ((i + 1 : Nat) : Int) := ⟨(y - 1).toNat, by omega, by omega⟩
    rw [lI_at hi] at hv
    exact pl_dom ((ok.2.1 i hi).2.2.2.2.2 v hv) e
  refine h (fun y => 1 ≤ y ∧ y ≤ (n : Int)) ⟨fun v hv e => hka _ ((ok.2.2 v hv).2 e), fun y hy => ⟨fun v hv e => hin y hy v (stK_mem hv) e, fun q hq hk e => ?_⟩⟩
  replace hq : q ∈ gdK (kA K n y) (lI n l y) := hq
  show 1 ≤ q.2.2 ∧ q.2.2 ≤ (n : Int)
  unfold gdK at hq
  split at hq
  · simp at hq
    subst hq
    simp only [] at e ⊢
    by_cases hl : 1 < (lI n l y).length
    · have hm := getD_mem hl ((1, 0) : VP)
      rw [List.getD_eq_getElem?_getD] at hm
      exact hin y hy _ hm e
    · rw [List.getElem?_eq_none (by omega)] at e
      simp at e
  · cases hq
/-- two graphs that were built alike are equal -/
theorem equal_told {w : World} {a a' ra ra' : Option Addr} {ac ac' n nr B B' cr cr' : Nat} {K nf tb tc tb' tc' : Nat → Nat} {l : Nat → List VP} {r : List VP} (h : Told w a ac n K nf tb tc l B) (h' : Told w a' ac' n K nf tb' tc' l B') (hn : 1 ≤ n) (hl : ∀ i, i < n → (l i).length = nf i) (hr : VsAt w ra r) (hr' : VsAt w ra' r) (hrl : r.length = nr) (hra : ∀ q, ra = some q → q.block < w.heap.size) (hra' : ∀ q, ra' = some q → q.block < w.heap.size) (hn2 : n ≤ 200000) (hr2 : nr ≤ 100000) (hnf : ∀ i, i < n → nf i ≤ 100000) :
    Calls Tryz.prog 8 #[.agg #[.slice a n ac, .slice ra nr cr], .agg #[.slice a' n ac', .slice ra' nr cr']] w fun e w' => e = .returned (.bool true) ∧ Out 0 0 w w' := by
  refine (equal_any a ra a' ra' n nr ac cr n nr ac' cr' (nsOf n K l) (nsOf n K l) (fl r) (fl r) (told_in h hn hl hr hrl hra hn2 hr2 hnf) (told_in h' hn hl hr' hrl hra' hn2 hr2 hnf)).mono ?_
  rintro e w' ⟨rfl, o⟩
  exact ⟨by simp, o⟩
end Go.Proofs.YtocncffplcfpbaaGreatDoor
