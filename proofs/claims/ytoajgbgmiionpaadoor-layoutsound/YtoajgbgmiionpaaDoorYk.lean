/- LayoutSound -/
import Derived.Test.YtoajgbgmiionpaaDoorYj
namespace Go.Proofs.YtoajgbgmiionpaaDoor
open Go.RowKit
set_option linter.unusedVariables false
set_option linter.unusedSimpArgs false

theorem part_mono {k a b : Int} (h : a ≤ b) : partW k a ≤ partW k b := by unfold partW; split <;> omega
theorem part_nonneg {k a : Int} (h : 0 ≤ a) : 0 ≤ partW k a := by unfold partW; split <;> omega
theorem size_fits {k n : Int} (h : sizeB k n = true) : fitsB k (sizeV k n) = true ∧ 1 ≤ sizeV k n ∧ sizeV k n ≤ 1024 := by
  have hf : fitsB k (sizeV k n) = true := by
    rw [size_good h]
    obtain ⟨hk, a, b, c⟩ := sizeB_iff.1 h
    have p1 := part_nonneg (k := k) a
    have p2 := part_mono (k := k) b
    refine fitsB_iff.2 ⟨hk, by omega, by omega, ?_⟩
    rcases c with c | c
    · exact .inl c
    · by_cases e : k = 12
      · subst e
        right
        rw [show wd 12 = 1 from rfl, show partW 12 n = n from rfl, show 1 + n - 1 = n from by omega]
        exact c
      · exact .inl e
  exact ⟨hf, fits_le hf⟩
theorem size_less {k n : Int} (h : sizeB k n = true) (h' : sizeB k (n - 1) = true) : sizeV k (n - 1) ≤ sizeV k n := by
  rw [size_good h, size_good h']
  have := part_mono (k := k) (show n - 1 ≤ n by omega)
  omega
theorem sound_pre {k n n' : Int} (n1 : -9223372036854775808 ≤ n) (n2 : n ≤ 9223372036854775807) (hn : wrap64 (n - 1) = n') :
    (sizeB k n = false ∧ sizeV k n = 0) ∨ (sizeB k n = true ∧ fitsB k (sizeV k n) = true ∧ 1 ≤ sizeV k n ∧ sizeV k n ≤ 1024 ∧ (sizeB k n' = false ∨ (sizeB k n' = true ∧ (n ≤ 0 ∨ (0 < n ∧ sizeV k n' ≤ sizeV k n))))) := by
  cases h : sizeB k n
  · exact .inl ⟨rfl, size_bad h⟩
  · right
    obtain ⟨a, b, c⟩ := size_fits h
    refine ⟨rfl, a, b, c, ?_⟩
    cases h' : sizeB k n'
    · exact .inl rfl
    · right
      refine ⟨rfl, ?_⟩
      by_cases h0 : n ≤ 0
      · exact .inl h0
      · right
        have e : n' = n - 1 := by unfold wrap64 at hn; omega
        rw [e] at h' ⊢
        exact ⟨by omega, size_less h h'⟩
theorem vis_num (k : Int) : (decide (1 ≤ k) && decide (k ≤ 10)) = false ∨ ((decide (1 ≤ k) && decide (k ≤ 10)) = true ∧ (decide (1 ≤ k) && decide (k ≤ 11)) = true) := by
  cases h : (decide (1 ≤ k) && decide (k ≤ 10))
  · exact .inl rfl
  · right
    simp at h ⊢
    omega
theorem role_range {j : Nat} {i : Int} (h1 : 1 ≤ j) (h2 : j ≤ 13) : 1 ≤ roleW j i ∧ roleW j i ≤ 9 := by
  have hf : 1 ≤ frameW i ∧ frameW i ≤ 9 := by unfold frameW; split <;> (try split) <;> omega
  rcases kinds h1 h2 with rfl | rfl | rfl | rfl | rfl | rfl | rfl | rfl | rfl | rfl | rfl | rfl | rfl <;> (simp [roleW]; try (repeat split) <;> omega)
theorem fl_pre {k : Int} {p q : Nat} (h : p ≤ q) : ∃ r, fl k q = fl k p ++ r := by
  induction h with
  | refl => exact ⟨[], by simp⟩
  | @step m h ih =>
    obtain ⟨r, e⟩ := ih
    refine ⟨r ++ [m].filter (fun (j : Nat) => decide (1 ≤ j) && (roleW k j != 1)), ?_⟩
    rw [← List.append_assoc, ← e]
    unfold fl
    rw [List.range_succ, List.filter_append]
theorem fl_at {k : Int} {p q : Nat} (h : p < q) (h1 : 1 ≤ p) (hr : roleW k p ≠ 1) : ∃ h : (fl k p).length < (fl k q).length, (fl k q)[(fl k p).length] = p := by
  obtain ⟨r, e⟩ := fl_pre (k := k) (show p + 1 ≤ q from h)
  rw [fl_in h1 hr] at e
  have hl : (fl k p).length < (fl k q).length := by rw [e]; simp
  refine ⟨hl, ?_⟩
  have : (fl k q)[(fl k p).length]? = some p := by rw [e]; simp
  rw [List.getElem?_eq_getElem hl] at this
  exact Option.some.inj this
theorem fl_le {k : Int} {p q : Nat} (h : p ≤ q) : (fl k p).length ≤ (fl k q).length := by
  obtain ⟨r, e⟩ := fl_pre (k := k) h
  rw [e]; simp
end Go.Proofs.YtoajgbgmiionpaaDoor
