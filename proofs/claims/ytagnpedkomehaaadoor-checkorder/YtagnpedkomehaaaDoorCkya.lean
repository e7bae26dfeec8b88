/- the law CheckOrder, its walk -/
import Derived.Test.YtagnpedkomehaaaDoorCky
namespace Go.Proofs.YtagnpedkomehaaaDoor
open Go.RowKit
set_option linter.unusedVariables false
set_option linter.unusedSimpArgs false

theorem mi_0 (z : Int) (hz : 5 ≤ z ∧ z ≤ 104) : ∀ f ∈ ([(1, 0, 0, [(1, 0), (21, 0)]), (0, 0, 0, [(23, 0)])] : List (Int × Int × Int × List (Int × Int))), MI f.2.2.2 := mi_all (by
    intro f hf
    simp at hf
    rcases hf with rfl | rfl
    all_goals
      intro y hy
      simp at hy
      first | (rcases hy with rfl | rfl | rfl | rfl | rfl | rfl) | (rcases hy with rfl | rfl | rfl | rfl | rfl) | (rcases hy with rfl | rfl | rfl | rfl) | (rcases hy with rfl | rfl | rfl) | (rcases hy with rfl | rfl) | subst hy
      all_goals (simp; try omega))
theorem mi_1 (z : Int) (hz : 5 ≤ z ∧ z ≤ 104) : ∀ f ∈ ([(0, 1, 1, [(3, z), (21, 0)]), (0, 0, 0, [(1, 0), (21, 0)])] : List (Int × Int × Int × List (Int × Int))), MI f.2.2.2 := mi_all (by
    intro f hf
    simp at hf
    rcases hf with rfl | rfl
    all_goals
      intro y hy
      simp at hy
      first | (rcases hy with rfl | rfl | rfl | rfl | rfl | rfl) | (rcases hy with rfl | rfl | rfl | rfl | rfl) | (rcases hy with rfl | rfl | rfl | rfl) | (rcases hy with rfl | rfl | rfl) | (rcases hy with rfl | rfl) | subst hy
      all_goals (simp; try omega))
theorem mi_2 (z : Int) (hz : 5 ≤ z ∧ z ≤ 104) : ∀ f ∈ ([(0, 0, 0, [(11, 0), (21, 0)]), (0, 0, 0, [(3, z), (21, 0)])] : List (Int × Int × Int × List (Int × Int))), MI f.2.2.2 := mi_all (by
    intro f hf
    simp at hf
    rcases hf with rfl | rfl
    all_goals
      intro y hy
      simp at hy
      first | (rcases hy with rfl | rfl | rfl | rfl | rfl | rfl) | (rcases hy with rfl | rfl | rfl | rfl | rfl) | (rcases hy with rfl | rfl | rfl | rfl) | (rcases hy with rfl | rfl | rfl) | (rcases hy with rfl | rfl) | subst hy
      all_goals (simp; try omega))
theorem mi_3 (z : Int) (hz : 5 ≤ z ∧ z ≤ 104) : ∀ f ∈ ([(0, 0, 0, [(3, z), (21, 0)]), (2, 1, 0, [(1, 0), (21, 0)])] : List (Int × Int × Int × List (Int × Int))), MI f.2.2.2 := mi_all (by
    intro f hf
    simp at hf
    rcases hf with rfl | rfl
    all_goals
      intro y hy
      simp at hy
      first | (rcases hy with rfl | rfl | rfl | rfl | rfl | rfl) | (rcases hy with rfl | rfl | rfl | rfl | rfl) | (rcases hy with rfl | rfl | rfl | rfl) | (rcases hy with rfl | rfl | rfl) | (rcases hy with rfl | rfl) | subst hy
      all_goals (simp; try omega))
theorem mi_4 (z : Int) (hz : 5 ≤ z ∧ z ≤ 104) : ∀ f ∈ ([(0, 0, 0, [(1, 0), (21, 0)]), (2, 1, 0, [(3, z), (21, 0)])] : List (Int × Int × Int × List (Int × Int))), MI f.2.2.2 := mi_all (by
    intro f hf
    simp at hf
    rcases hf with rfl | rfl
    all_goals
      intro y hy
      simp at hy
      first | (rcases hy with rfl | rfl | rfl | rfl | rfl | rfl) | (rcases hy with rfl | rfl | rfl | rfl | rfl) | (rcases hy with rfl | rfl | rfl | rfl) | (rcases hy with rfl | rfl | rfl) | (rcases hy with rfl | rfl) | subst hy
      all_goals (simp; try omega))
theorem mi_5 (z : Int) (hz : 5 ≤ z ∧ z ≤ 104) : ∀ f ∈ ([(0, 0, 0, [(1, 0), (21, 0)]), (0, 0, 0, [(11, 0), (21, 0)]), (0, 0, 0, [(14, 1)])] : List (Int × Int × Int × List (Int × Int))), MI f.2.2.2 := mi_all (by
    intro f hf
    simp at hf
    rcases hf with rfl | rfl | rfl
    all_goals
      intro y hy
      simp at hy
      first | (rcases hy with rfl | rfl | rfl | rfl | rfl | rfl) | (rcases hy with rfl | rfl | rfl | rfl | rfl) | (rcases hy with rfl | rfl | rfl | rfl) | (rcases hy with rfl | rfl | rfl) | (rcases hy with rfl | rfl) | subst hy
      all_goals (simp; try omega))
theorem mi_6 (z : Int) (hz : 5 ≤ z ∧ z ≤ 104) : ∀ f ∈ ([(0, 0, 0, [(1, 0), (21, 0)]), (0, 0, 0, [(14, 1), (3, 9)])] : List (Int × Int × Int × List (Int × Int))), MI f.2.2.2 := mi_all (by
    intro f hf
    simp at hf
    rcases hf with rfl | rfl
    all_goals
      intro y hy
      simp at hy
      first | (rcases hy with rfl | rfl | rfl | rfl | rfl | rfl) | (rcases hy with rfl | rfl | rfl | rfl | rfl) | (rcases hy with rfl | rfl | rfl | rfl) | (rcases hy with rfl | rfl | rfl) | (rcases hy with rfl | rfl) | subst hy
      all_goals (simp; try omega))
theorem mi_7 (z : Int) (hz : 5 ≤ z ∧ z ≤ 104) : ∀ f ∈ ([(0, 0, 0, [(1, 0), (21, 0)]), (0, 0, 0, [(1, 0), (11, 0), (11, 0), (1, 0)])] : List (Int × Int × Int × List (Int × Int))), MI f.2.2.2 := mi_all (by
    intro f hf
    simp at hf
    rcases hf with rfl | rfl
    all_goals
      intro y hy
      simp at hy
      first | (rcases hy with rfl | rfl | rfl | rfl | rfl | rfl) | (rcases hy with rfl | rfl | rfl | rfl | rfl) | (rcases hy with rfl | rfl | rfl | rfl) | (rcases hy with rfl | rfl | rfl) | (rcases hy with rfl | rfl) | subst hy
      all_goals (simp; try omega))
theorem mi_8 (z : Int) (hz : 5 ≤ z ∧ z ≤ 104) : ∀ f ∈ ([(0, 0, 0, [(1, 0), (21, 0)]), (0, 0, 0, [(1, 0), (15, 4), (1, 0), (21, 0), (11, 0), (14, 0)])] : List (Int × Int × Int × List (Int × Int))), MI f.2.2.2 := mi_all (by
    intro f hf
    simp at hf
    rcases hf with rfl | rfl
    all_goals
      intro y hy
      simp at hy
      first | (rcases hy with rfl | rfl | rfl | rfl | rfl | rfl) | (rcases hy with rfl | rfl | rfl | rfl | rfl) | (rcases hy with rfl | rfl | rfl | rfl) | (rcases hy with rfl | rfl | rfl) | (rcases hy with rfl | rfl) | subst hy
      all_goals (simp; try omega))
theorem nine {n : Nat} (h : n < 9) : n = 0 ∨ n = 1 ∨ n = 2 ∨ n = 3 ∨ n = 4 ∨ n = 5 ∨ n = 6 ∨ n = 7 ∨ n = 8 := by omega
set_option maxRecDepth 100000 in
set_option maxHeartbeats 8000000 in
theorem order_any {w : World} (hT : Ty w) (what a : Int) (hx : -9223372036854775808 ≤ what ∧ what ≤ 9223372036854775807) (ha : -9223372036854775808 ≤ a ∧ a ≤ 9223372036854775807) : Calls Tryd.prog 8 #[.int .i64 what, .int .i64 a] w fun e w' => e = .returned (.bool true) ∧ Out 0 0 w w' := by
  have HWa := hid_mk (fun w : World => within_any (w := w) a 100 (by decide) ha)
  have HWw := hid_mk (fun w : World => within_any (w := w) what 9 (by decide) hx)
  have hv := wi_lt (x := a) (n := 100) (by decide)
  have hu := nine (wi_lt (x := what) (n := 9) (by decide))
  generalize wiV a 100 = v at *
  generalize wiV what 9 = u at *
  obtain ⟨z, hz⟩ : ∃ z : Int, 5 + (v : Int) = z := ⟨_, rfl⟩
  have hz5 : 5 ≤ z ∧ z ≤ 104 := by omega
  have hwz : wrap64 (5 + (v : Int)) = z := by unfold wrap64; omega
  obtain ⟨h, hh⟩ : ∃ h, w.heap.size = h := ⟨_, rfl⟩
  obtain ⟨V, hV⟩ : ∃ V, laidAll w [.cells #[.int .i64 1, .int .i64 0, .int .i64 21, .int .i64 0] 49, .cells #[.int .i64 11, .int .i64 0, .int .i64 21, .int .i64 0] 49, .cells #[.int .i64 3, .int .i64 z, .int .i64 21, .int .i64 0] 49, .cells #[.int .i64 23, .int .i64 0] 49, .cells #[.int .i64 1, .int .i64 0, .int .i64 0, .slice (some ⟨h, 0, none⟩) 2 2, .int .i64 0, .int .i64 0, .int .i64 0, .slice (some ⟨h + 1 + 1 + 1, 0, none⟩) 1 1] 36, .cells #[.int .i64 0, .int .i64 1, .int .i64 1, .slice (some ⟨h + 1 + 1, 0, none⟩) 2 2, .int .i64 0, .int .i64 0, .int .i64 0, .slice (some ⟨h, 0, none⟩) 2 2] 36, .cells #[.int .i64 0, .int .i64 0, .int .i64 0, .slice (some ⟨h + 1, 0, none⟩) 2 2, .int .i64 0, .int .i64 0, .int .i64 0, .slice (some ⟨h + 1 + 1, 0, none⟩) 2 2] 36, .cells #[.int .i64 0, .int .i64 0, .int .i64 0, .slice (some ⟨h + 1 + 1, 0, none⟩) 2 2, .int .i64 2, .int .i64 1, .int .i64 0, .slice (some ⟨h, 0, none⟩) 2 2] 36, .cells #[.int .i64 0, .int .i64 0, .int .i64 0, .slice (some ⟨h, 0, none⟩) 2 2, .int .i64 2, .int .i64 1, .int .i64 0, .slice (some ⟨h + 1 + 1, 0, none⟩) 2 2] 36, .cells #[.int .i64 14, .int .i64 1] 49, .cells #[.int .i64 0, .int .i64 0, .int .i64 0, .slice (some ⟨h, 0, none⟩) 2 2, .int .i64 0, .int .i64 0, .int .i64 0, .slice (some ⟨h + 1, 0, none⟩) 2 2, .int .i64 0, .int .i64 0, .int .i64 0, .slice (some ⟨h + 1 + 1 + 1 + 1 + 1 + 1 + 1 + 1 + 1, 0, none⟩) 1 1] 36, .cells #[.int .i64 14, .int .i64 1, .int .i64 3, .int .i64 9] 49, .cells #[.int .i64 0, .int .i64 0, .int .i64 0, .slice (some ⟨h, 0, none⟩) 2 2, .int .i64 0, .int .i64 0, .int .i64 0, .slice (some ⟨h + 1 + 1 + 1 + 1 + 1 + 1 + 1 + 1 + 1 + 1 + 1, 0, none⟩) 2 2] 36, .cells #[.int .i64 1, .int .i64 0, .int .i64 11, .int .i64 0, .int .i64 11, .int .i64 0, .int .i64 1, .int .i64 0] 49, .cells #[.int .i64 0, .int .i64 0, .int .i64 0, .slice (some ⟨h, 0, none⟩) 2 2, .int .i64 0, .int .i64 0, .int .i64 0, .slice (some ⟨h + 1 + 1 + 1 + 1 + 1 + 1 + 1 + 1 + 1 + 1 + 1 + 1 + 1, 0, none⟩) 4 4] 36, .cells #[.int .i64 1, .int .i64 0, .int .i64 15, .int .i64 4, .int .i64 1, .int .i64 0, .int .i64 21, .int .i64 0, .int .i64 11, .int .i64 0, .int .i64 14, .int .i64 0] 49, .cells #[.int .i64 0, .int .i64 0, .int .i64 0, .slice (some ⟨h, 0, none⟩) 2 2, .int .i64 0, .int .i64 0, .int .i64 0, .slice (some ⟨h + 1 + 1 + 1 + 1 + 1 + 1 + 1 + 1 + 1 + 1 + 1 + 1 + 1 + 1 + 1, 0, none⟩) 6 6] 36, .cells #[.slice (some ⟨h + 1 + 1 + 1 + 1, 0, none⟩) 2 2, .slice (some ⟨h + 1 + 1 + 1 + 1 + 1, 0, none⟩) 2 2, .slice (some ⟨h + 1 + 1 + 1 + 1 + 1 + 1, 0, none⟩) 2 2, .slice (some ⟨h + 1 + 1 + 1 + 1 + 1 + 1 + 1, 0, none⟩) 2 2, .slice (some ⟨h + 1 + 1 + 1 + 1 + 1 + 1 + 1 + 1, 0, none⟩) 2 2, .slice (some ⟨h + 1 + 1 + 1 + 1 + 1 + 1 + 1 + 1 + 1 + 1, 0, none⟩) 3 3, .slice (some ⟨h + 1 + 1 + 1 + 1 + 1 + 1 + 1 + 1 + 1 + 1 + 1 + 1, 0, none⟩) 2 2, .slice (some ⟨h + 1 + 1 + 1 + 1 + 1 + 1 + 1 + 1 + 1 + 1 + 1 + 1 + 1 + 1, 0, none⟩) 2 2, .slice (some ⟨h + 1 + 1 + 1 + 1 + 1 + 1 + 1 + 1 + 1 + 1 + 1 + 1 + 1 + 1 + 1 + 1, 0, none⟩) 2 2] 23, .cells #[.int .i64 62, .int .i64 0, .int .i64 0, .int .i64 70, .int .i64 0, .int .i64 0, .int .i64 72, .int .i64 1, .int .i64 0, .int .i64 72, .int .i64 0, .int .i64 0, .int .i64 71, .int .i64 1, .int .i64 0, .int .i64 73, .int .i64 2, .int .i64 0, .int .i64 72, .int .i64 1, .int .i64 1, .int .i64 74, .int .i64 1, .int .i64 2, .int .i64 74, .int .i64 1, .int .i64 4] 56] = V := ⟨_, rfl⟩
  have oV : Out 0 0 w V := by rw [← hV]; exact laid_out1 _ w
  have hfn0 : FnIn V V.heap.size (some ⟨h + 1 + 1 + 1 + 1, 0, none⟩) [(1, 0, 0, [(1, 0), (21, 0)]), (0, 0, 0, [(23, 0)])] := fn_row (laid_bl hh hV 4 rfl) fun j f hf => by
    match j, hf with
    | 0, hf => cases hf; exact ⟨h, rfl, rfl, rfl, rfl, laid_bl hh hV 0 rfl⟩
    | 1, hf => cases hf; exact ⟨h + 1 + 1 + 1, rfl, rfl, rfl, rfl, laid_bl hh hV 3 rfl⟩
    | j + 2, hf => simp at hf
  have HCk0 := hid_mk (check_any (hT.out oV (.inr rfl)) (Nat.le_refl _) 0 [] [(1, 0, 0, [(1, 0), (21, 0)]), (0, 0, 0, [(23, 0)])] none (some ⟨h + 1 + 1 + 1 + 1, 0, none⟩) 0 0 2 2 rfl rfl (.inl rfl) hfn0 (mi_0 z hz5))
  rw [or_0 z hz5] at HCk0
  clear hfn0
  have hfn1 : FnIn V V.heap.size (some ⟨h + 1 + 1 + 1 + 1 + 1, 0, none⟩) [(0, 1, 1, [(3, z), (21, 0)]), (0, 0, 0, [(1, 0), (21, 0)])] := fn_row (laid_bl hh hV 5 rfl) fun j f hf => by
    match j, hf with
    | 0, hf => cases hf; exact ⟨h + 1 + 1, rfl, rfl, rfl, rfl, laid_bl hh hV 2 rfl⟩
    | 1, hf => cases hf; exact ⟨h, rfl, rfl, rfl, rfl, laid_bl hh hV 0 rfl⟩
    | j + 2, hf => simp at hf
  have HCk1 := hid_mk (check_any (hT.out oV (.inr rfl)) (Nat.le_refl _) 0 [] [(0, 1, 1, [(3, z), (21, 0)]), (0, 0, 0, [(1, 0), (21, 0)])] none (some ⟨h + 1 + 1 + 1 + 1 + 1, 0, none⟩) 0 0 2 2 rfl rfl (.inl rfl) hfn1 (mi_1 z hz5))
  rw [or_1 z hz5] at HCk1
  clear hfn1
  have hfn2 : FnIn V V.heap.size (some ⟨h + 1 + 1 + 1 + 1 + 1 + 1, 0, none⟩) [(0, 0, 0, [(11, 0), (21, 0)]), (0, 0, 0, [(3, z), (21, 0)])] := fn_row (laid_bl hh hV 6 rfl) fun j f hf => by
    match j, hf with
    | 0, hf => cases hf; exact ⟨h + 1, rfl, rfl, rfl, rfl, laid_bl hh hV 1 rfl⟩
    | 1, hf => cases hf; exact ⟨h + 1 + 1, rfl, rfl, rfl, rfl, laid_bl hh hV 2 rfl⟩
    | j + 2, hf => simp at hf
  have HCk2 := hid_mk (check_any (hT.out oV (.inr rfl)) (Nat.le_refl _) 0 [] [(0, 0, 0, [(11, 0), (21, 0)]), (0, 0, 0, [(3, z), (21, 0)])] none (some ⟨h + 1 + 1 + 1 + 1 + 1 + 1, 0, none⟩) 0 0 2 2 rfl rfl (.inl rfl) hfn2 (mi_2 z hz5))
  rw [or_2 z hz5] at HCk2
  clear hfn2
  have hfn3 : FnIn V V.heap.size (some ⟨h + 1 + 1 + 1 + 1 + 1 + 1 + 1, 0, none⟩) [(0, 0, 0, [(3, z), (21, 0)]), (2, 1, 0, [(1, 0), (21, 0)])] := fn_row (laid_bl hh hV 7 rfl) fun j f hf => by
    match j, hf with
    | 0, hf => cases hf; exact ⟨h + 1 + 1, rfl, rfl, rfl, rfl, laid_bl hh hV 2 rfl⟩
    | 1, hf => cases hf; exact ⟨h, rfl, rfl, rfl, rfl, laid_bl hh hV 0 rfl⟩
    | j + 2, hf => simp at hf
  have HCk3 := hid_mk (check_any (hT.out oV (.inr rfl)) (Nat.le_refl _) 0 [] [(0, 0, 0, [(3, z), (21, 0)]), (2, 1, 0, [(1, 0), (21, 0)])] none (some ⟨h + 1 + 1 + 1 + 1 + 1 + 1 + 1, 0, none⟩) 0 0 2 2 rfl rfl (.inl rfl) hfn3 (mi_3 z hz5))
  rw [or_3 z hz5] at HCk3
  clear hfn3
  have hfn4 : FnIn V V.heap.size (some ⟨h + 1 + 1 + 1 + 1 + 1 + 1 + 1 + 1, 0, none⟩) [(0, 0, 0, [(1, 0), (21, 0)]), (2, 1, 0, [(3, z), (21, 0)])] := fn_row (laid_bl hh hV 8 rfl) fun j f hf => by
    match j, hf with
    | 0, hf => cases hf; exact ⟨h, rfl, rfl, rfl, rfl, laid_bl hh hV 0 rfl⟩
    | 1, hf => cases hf; exact ⟨h + 1 + 1, rfl, rfl, rfl, rfl, laid_bl hh hV 2 rfl⟩
    | j + 2, hf => simp at hf
  have HCk4 := hid_mk (check_any (hT.out oV (.inr rfl)) (Nat.le_refl _) 0 [] [(0, 0, 0, [(1, 0), (21, 0)]), (2, 1, 0, [(3, z), (21, 0)])] none (some ⟨h + 1 + 1 + 1 + 1 + 1 + 1 + 1 + 1, 0, none⟩) 0 0 2 2 rfl rfl (.inl rfl) hfn4 (mi_4 z hz5))
  rw [or_4 z hz5] at HCk4
  clear hfn4
  have hfn5 : FnIn V V.heap.size (some ⟨h + 1 + 1 + 1 + 1 + 1 + 1 + 1 + 1 + 1 + 1, 0, none⟩) [(0, 0, 0, [(1, 0), (21, 0)]), (0, 0, 0, [(11, 0), (21, 0)]), (0, 0, 0, [(14, 1)])] := fn_row (laid_bl hh hV 10 rfl) fun j f hf => by
    match j, hf with
    | 0, hf => cases hf; exact ⟨h, rfl, rfl, rfl, rfl, laid_bl hh hV 0 rfl⟩
    | 1, hf => cases hf; exact ⟨h + 1, rfl, rfl, rfl, rfl, laid_bl hh hV 1 rfl⟩
    | 2, hf => cases hf; exact ⟨h + 1 + 1 + 1 + 1 + 1 + 1 + 1 + 1 + 1, rfl, rfl, rfl, rfl, laid_bl hh hV 9 rfl⟩
    | j + 3, hf => simp at hf
  have HCk5 := hid_mk (check_any (hT.out oV (.inr rfl)) (Nat.le_refl _) 0 [] [(0, 0, 0, [(1, 0), (21, 0)]), (0, 0, 0, [(11, 0), (21, 0)]), (0, 0, 0, [(14, 1)])] none (some ⟨h + 1 + 1 + 1 + 1 + 1 + 1 + 1 + 1 + 1 + 1, 0, none⟩) 0 0 3 3 rfl rfl (.inl rfl) hfn5 (mi_5 z hz5))
  rw [or_5 z hz5] at HCk5
  clear hfn5
  have hfn6 : FnIn V V.heap.size (some ⟨h + 1 + 1 + 1 + 1 + 1 + 1 + 1 + 1 + 1 + 1 + 1 + 1, 0, none⟩) [(0, 0, 0, [(1, 0), (21, 0)]), (0, 0, 0, [(14, 1), (3, 9)])] := fn_row (laid_bl hh hV 12 rfl) fun j f hf => by
    match j, hf with
    | 0, hf => cases hf; exact ⟨h, rfl, rfl, rfl, rfl, laid_bl hh hV 0 rfl⟩
    | 1, hf => cases hf; exact ⟨h + 1 + 1 + 1 + 1 + 1 + 1 + 1 + 1 + 1 + 1 + 1, rfl, rfl, rfl, rfl, laid_bl hh hV 11 rfl⟩
    | j + 2, hf => simp at hf
  have HCk6 := hid_mk (check_any (hT.out oV (.inr rfl)) (Nat.le_refl _) 0 [] [(0, 0, 0, [(1, 0), (21, 0)]), (0, 0, 0, [(14, 1), (3, 9)])] none (some ⟨h + 1 + 1 + 1 + 1 + 1 + 1 + 1 + 1 + 1 + 1 + 1 + 1, 0, none⟩) 0 0 2 2 rfl rfl (.inl rfl) hfn6 (mi_6 z hz5))
  rw [or_6 z hz5] at HCk6
  clear hfn6
  have hfn7 : FnIn V V.heap.size (some ⟨h + 1 + 1 + 1 + 1 + 1 + 1 + 1 + 1 + 1 + 1 + 1 + 1 + 1 + 1, 0, none⟩) [(0, 0, 0, [(1, 0), (21, 0)]), (0, 0, 0, [(1, 0), (11, 0), (11, 0), (1, 0)])] := fn_row (laid_bl hh hV 14 rfl) fun j f hf => by
    match j, hf with
    | 0, hf => cases hf; exact ⟨h, rfl, rfl, rfl, rfl, laid_bl hh hV 0 rfl⟩
    | 1, hf => cases hf; exact ⟨h + 1 + 1 + 1 + 1 + 1 + 1 + 1 + 1 + 1 + 1 + 1 + 1 + 1, rfl, rfl, rfl, rfl, laid_bl hh hV 13 rfl⟩
    | j + 2, hf => simp at hf
  have HCk7 := hid_mk (check_any (hT.out oV (.inr rfl)) (Nat.le_refl _) 0 [] [(0, 0, 0, [(1, 0), (21, 0)]), (0, 0, 0, [(1, 0), (11, 0), (11, 0), (1, 0)])] none (some ⟨h + 1 + 1 + 1 + 1 + 1 + 1 + 1 + 1 + 1 + 1 + 1 + 1 + 1 + 1, 0, none⟩) 0 0 2 2 rfl rfl (.inl rfl) hfn7 (mi_7 z hz5))
  rw [or_7 z hz5] at HCk7
  clear hfn7
  have hfn8 : FnIn V V.heap.size (some ⟨h + 1 + 1 + 1 + 1 + 1 + 1 + 1 + 1 + 1 + 1 + 1 + 1 + 1 + 1 + 1 + 1, 0, none⟩) [(0, 0, 0, [(1, 0), (21, 0)]), (0, 0, 0, [(1, 0), (15, 4), (1, 0), (21, 0), (11, 0), (14, 0)])] := fn_row (laid_bl hh hV 16 rfl) fun j f hf => by
    match j, hf with
    | 0, hf => cases hf; exact ⟨h, rfl, rfl, rfl, rfl, laid_bl hh hV 0 rfl⟩
    | 1, hf => cases hf; exact ⟨h + 1 + 1 + 1 + 1 + 1 + 1 + 1 + 1 + 1 + 1 + 1 + 1 + 1 + 1 + 1, rfl, rfl, rfl, rfl, laid_bl hh hV 15 rfl⟩
    | j + 2, hf => simp at hf
  have HCk8 := hid_mk (check_any (hT.out oV (.inr rfl)) (Nat.le_refl _) 0 [] [(0, 0, 0, [(1, 0), (21, 0)]), (0, 0, 0, [(1, 0), (15, 4), (1, 0), (21, 0), (11, 0), (14, 0)])] none (some ⟨h + 1 + 1 + 1 + 1 + 1 + 1 + 1 + 1 + 1 + 1 + 1 + 1 + 1 + 1 + 1 + 1, 0, none⟩) 0 0 2 2 rfl rfl (.inl rfl) hfn8 (mi_8 z hz5))
  rw [or_8 z hz5] at HCk8
  clear hfn8
  have bR := laid_bl hh hV 17 rfl
  have bW := laid_bl hh hV 18 rfl
  have HO := hid_mk oV
  have HT := hid_mk hT
  have HBW := hid_mk bW
  have HBR := hid_mk bR
  simp only [laidAll] at hV
  have HU := hid_mk hu
  clear hT hx ha hv hz hz5 oV bW bR hu
  go_enter Tryd.func8, Tryd.ntmps8
  go_wp2_with fail
  refine calls_same (HWa.out _) ?_
  clear HWa
  go_wp2_with fail
  refine calls_same (HWw.out _) ?_
  clear HWw hV hh hwz
  rcases HU.out with rfl | rfl | rfl | rfl | rfl | rfl | rfl | rfl | rfl
  · have HC := HCk0
    clear HCk1 HCk2 HCk3 HCk4 HCk5 HCk6 HCk7 HCk8
    have r0 := HBR.out.cell (i := 0) rfl
    clear HBR
    go_wp2_with fail
    refine HC.out.mono ?_
    rintro e w1 ⟨o1, ⟨S, Ds, sv, dv, dgs, z1, rfl, z2⟩ | ⟨er, f, i, z1, rfl⟩⟩
    · cases z1
    · cases z1
      have HO1 := hid_mk (HO.out.trans o1)
      have HB1 := hid_mk (HBW.out.kept o1 (.inr (Nat.zero_le _)))
      clear o1 r0 HC
      go_wp2_with (go_at_call 10; refine (alive_any (HT.out.out (HO1.out.trans ((Out.refl 0 0 w1).alloc _)) (.inr rfl))).mono ?_; rintro e w2 ⟨rfl, o2⟩; have o3 := ((Out.refl 0 0 w1).alloc (.cells #[.slice none 0 0, .slice none 0 0] 41)).trans o2; have b3 := HB1.out.kept o3 (.inr (Nat.zero_le _)); have d0 := b3.cell (i := 0) rfl; have d1 := b3.cell (i := 1) rfl; have d2 := b3.cell (i := 2) rfl; have HO2 := hid_mk (HO1.out.trans o3); clear o2 o3 b3)
      go_ret
      exact ⟨rfl, HO2.out⟩
  · have HC := HCk1
    clear HCk0 HCk2 HCk3 HCk4 HCk5 HCk6 HCk7 HCk8
    have r0 := HBR.out.cell (i := 1) rfl
    clear HBR
    go_wp2_with fail
    refine HC.out.mono ?_
    rintro e w1 ⟨o1, ⟨S, Ds, sv, dv, dgs, z1, rfl, z2⟩ | ⟨er, f, i, z1, rfl⟩⟩
    · cases z1
    · cases z1
      have HO1 := hid_mk (HO.out.trans o1)
      have HB1 := hid_mk (HBW.out.kept o1 (.inr (Nat.zero_le _)))
      clear o1 r0 HC
      go_wp2_with (go_at_call 10; refine (alive_any (HT.out.out (HO1.out.trans ((Out.refl 0 0 w1).alloc _)) (.inr rfl))).mono ?_; rintro e w2 ⟨rfl, o2⟩; have o3 := ((Out.refl 0 0 w1).alloc (.cells #[.slice none 0 0, .slice none 0 0] 41)).trans o2; have b3 := HB1.out.kept o3 (.inr (Nat.zero_le _)); have d0 := b3.cell (i := 3) rfl; have d1 := b3.cell (i := 4) rfl; have d2 := b3.cell (i := 5) rfl; have HO2 := hid_mk (HO1.out.trans o3); clear o2 o3 b3)
      go_ret
      exact ⟨rfl, HO2.out⟩
  · have HC := HCk2
    clear HCk0 HCk1 HCk3 HCk4 HCk5 HCk6 HCk7 HCk8
    have r0 := HBR.out.cell (i := 2) rfl
    clear HBR
    go_wp2_with fail
    refine HC.out.mono ?_
    rintro e w1 ⟨o1, ⟨S, Ds, sv, dv, dgs, z1, rfl, z2⟩ | ⟨er, f, i, z1, rfl⟩⟩
    · cases z1
    · cases z1
      have HO1 := hid_mk (HO.out.trans o1)
      have HB1 := hid_mk (HBW.out.kept o1 (.inr (Nat.zero_le _)))
      clear o1 r0 HC
      go_wp2_with (go_at_call 10; refine (alive_any (HT.out.out (HO1.out.trans ((Out.refl 0 0 w1).alloc _)) (.inr rfl))).mono ?_; rintro e w2 ⟨rfl, o2⟩; have o3 := ((Out.refl 0 0 w1).alloc (.cells #[.slice none 0 0, .slice none 0 0] 41)).trans o2; have b3 := HB1.out.kept o3 (.inr (Nat.zero_le _)); have d0 := b3.cell (i := 6) rfl; have d1 := b3.cell (i := 7) rfl; have d2 := b3.cell (i := 8) rfl; have HO2 := hid_mk (HO1.out.trans o3); clear o2 o3 b3)
      go_ret
      exact ⟨rfl, HO2.out⟩
  · have HC := HCk3
    clear HCk0 HCk1 HCk2 HCk4 HCk5 HCk6 HCk7 HCk8
    have r0 := HBR.out.cell (i := 3) rfl
    clear HBR
    go_wp2_with fail
    refine HC.out.mono ?_
    rintro e w1 ⟨o1, ⟨S, Ds, sv, dv, dgs, z1, rfl, z2⟩ | ⟨er, f, i, z1, rfl⟩⟩
    · cases z1
    · cases z1
      have HO1 := hid_mk (HO.out.trans o1)
      have HB1 := hid_mk (HBW.out.kept o1 (.inr (Nat.zero_le _)))
      clear o1 r0 HC
      go_wp2_with (go_at_call 10; refine (alive_any (HT.out.out (HO1.out.trans ((Out.refl 0 0 w1).alloc _)) (.inr rfl))).mono ?_; rintro e w2 ⟨rfl, o2⟩; have o3 := ((Out.refl 0 0 w1).alloc (.cells #[.slice none 0 0, .slice none 0 0] 41)).trans o2; have b3 := HB1.out.kept o3 (.inr (Nat.zero_le _)); have d0 := b3.cell (i := 9) rfl; have d1 := b3.cell (i := 10) rfl; have d2 := b3.cell (i := 11) rfl; have HO2 := hid_mk (HO1.out.trans o3); clear o2 o3 b3)
      go_ret
      exact ⟨rfl, HO2.out⟩
  · have HC := HCk4
    clear HCk0 HCk1 HCk2 HCk3 HCk5 HCk6 HCk7 HCk8
    have r0 := HBR.out.cell (i := 4) rfl
    clear HBR
    go_wp2_with fail
    refine HC.out.mono ?_
    rintro e w1 ⟨o1, ⟨S, Ds, sv, dv, dgs, z1, rfl, z2⟩ | ⟨er, f, i, z1, rfl⟩⟩
    · cases z1
    · cases z1
      have HO1 := hid_mk (HO.out.trans o1)
      have HB1 := hid_mk (HBW.out.kept o1 (.inr (Nat.zero_le _)))
      clear o1 r0 HC
      go_wp2_with (go_at_call 10; refine (alive_any (HT.out.out (HO1.out.trans ((Out.refl 0 0 w1).alloc _)) (.inr rfl))).mono ?_; rintro e w2 ⟨rfl, o2⟩; have o3 := ((Out.refl 0 0 w1).alloc (.cells #[.slice none 0 0, .slice none 0 0] 41)).trans o2; have b3 := HB1.out.kept o3 (.inr (Nat.zero_le _)); have d0 := b3.cell (i := 12) rfl; have d1 := b3.cell (i := 13) rfl; have d2 := b3.cell (i := 14) rfl; have HO2 := hid_mk (HO1.out.trans o3); clear o2 o3 b3)
      go_ret
      exact ⟨rfl, HO2.out⟩
  · have HC := HCk5
    clear HCk0 HCk1 HCk2 HCk3 HCk4 HCk6 HCk7 HCk8
    have r0 := HBR.out.cell (i := 5) rfl
    clear HBR
    go_wp2_with fail
    refine HC.out.mono ?_
    rintro e w1 ⟨o1, ⟨S, Ds, sv, dv, dgs, z1, rfl, z2⟩ | ⟨er, f, i, z1, rfl⟩⟩
    · cases z1
    · cases z1
      have HO1 := hid_mk (HO.out.trans o1)
      have HB1 := hid_mk (HBW.out.kept o1 (.inr (Nat.zero_le _)))
      clear o1 r0 HC
      go_wp2_with (go_at_call 10; refine (alive_any (HT.out.out (HO1.out.trans ((Out.refl 0 0 w1).alloc _)) (.inr rfl))).mono ?_; rintro e w2 ⟨rfl, o2⟩; have o3 := ((Out.refl 0 0 w1).alloc (.cells #[.slice none 0 0, .slice none 0 0] 41)).trans o2; have b3 := HB1.out.kept o3 (.inr (Nat.zero_le _)); have d0 := b3.cell (i := 15) rfl; have d1 := b3.cell (i := 16) rfl; have d2 := b3.cell (i := 17) rfl; have HO2 := hid_mk (HO1.out.trans o3); clear o2 o3 b3)
      go_ret
      exact ⟨rfl, HO2.out⟩
  · have HC := HCk6
    clear HCk0 HCk1 HCk2 HCk3 HCk4 HCk5 HCk7 HCk8
    have r0 := HBR.out.cell (i := 6) rfl
    clear HBR
    go_wp2_with fail
    refine HC.out.mono ?_
    rintro e w1 ⟨o1, ⟨S, Ds, sv, dv, dgs, z1, rfl, z2⟩ | ⟨er, f, i, z1, rfl⟩⟩
    · cases z1
    · cases z1
      have HO1 := hid_mk (HO.out.trans o1)
      have HB1 := hid_mk (HBW.out.kept o1 (.inr (Nat.zero_le _)))
      clear o1 r0 HC
      go_wp2_with (go_at_call 10; refine (alive_any (HT.out.out (HO1.out.trans ((Out.refl 0 0 w1).alloc _)) (.inr rfl))).mono ?_; rintro e w2 ⟨rfl, o2⟩; have o3 := ((Out.refl 0 0 w1).alloc (.cells #[.slice none 0 0, .slice none 0 0] 41)).trans o2; have b3 := HB1.out.kept o3 (.inr (Nat.zero_le _)); have d0 := b3.cell (i := 18) rfl; have d1 := b3.cell (i := 19) rfl; have d2 := b3.cell (i := 20) rfl; have HO2 := hid_mk (HO1.out.trans o3); clear o2 o3 b3)
      go_ret
      exact ⟨rfl, HO2.out⟩
  · have HC := HCk7
    clear HCk0 HCk1 HCk2 HCk3 HCk4 HCk5 HCk6 HCk8
    have r0 := HBR.out.cell (i := 7) rfl
    clear HBR
    go_wp2_with fail
    refine HC.out.mono ?_
    rintro e w1 ⟨o1, ⟨S, Ds, sv, dv, dgs, z1, rfl, z2⟩ | ⟨er, f, i, z1, rfl⟩⟩
    · cases z1
    · cases z1
      have HO1 := hid_mk (HO.out.trans o1)
      have HB1 := hid_mk (HBW.out.kept o1 (.inr (Nat.zero_le _)))
      clear o1 r0 HC
      go_wp2_with (go_at_call 10; refine (alive_any (HT.out.out (HO1.out.trans ((Out.refl 0 0 w1).alloc _)) (.inr rfl))).mono ?_; rintro e w2 ⟨rfl, o2⟩; have o3 := ((Out.refl 0 0 w1).alloc (.cells #[.slice none 0 0, .slice none 0 0] 41)).trans o2; have b3 := HB1.out.kept o3 (.inr (Nat.zero_le _)); have d0 := b3.cell (i := 21) rfl; have d1 := b3.cell (i := 22) rfl; have d2 := b3.cell (i := 23) rfl; have HO2 := hid_mk (HO1.out.trans o3); clear o2 o3 b3)
      go_ret
      exact ⟨rfl, HO2.out⟩
  · have HC := HCk8
    clear HCk0 HCk1 HCk2 HCk3 HCk4 HCk5 HCk6 HCk7
    have r0 := HBR.out.cell (i := 8) rfl
    clear HBR
    go_wp2_with fail
    refine HC.out.mono ?_
    rintro e w1 ⟨o1, ⟨S, Ds, sv, dv, dgs, z1, rfl, z2⟩ | ⟨er, f, i, z1, rfl⟩⟩
    · cases z1
    · cases z1
      have HO1 := hid_mk (HO.out.trans o1)
      have HB1 := hid_mk (HBW.out.kept o1 (.inr (Nat.zero_le _)))
      clear o1 r0 HC
      go_wp2_with (go_at_call 10; refine (alive_any (HT.out.out (HO1.out.trans ((Out.refl 0 0 w1).alloc _)) (.inr rfl))).mono ?_; rintro e w2 ⟨rfl, o2⟩; have o3 := ((Out.refl 0 0 w1).alloc (.cells #[.slice none 0 0, .slice none 0 0] 41)).trans o2; have b3 := HB1.out.kept o3 (.inr (Nat.zero_le _)); have d0 := b3.cell (i := 24) rfl; have d1 := b3.cell (i := 25) rfl; have d2 := b3.cell (i := 26) rfl; have HO2 := hid_mk (HO1.out.trans o3); clear o2 o3 b3)
      go_ret
      exact ⟨rfl, HO2.out⟩
end Go.Proofs.YtagnpedkomehaaaDoor
