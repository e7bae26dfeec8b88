/- PagesGiven -/
import Derived.Test.YtfkmaanfgkkjcaaDoorJb
namespace Go.Proofs.YtfkmaanfgkkjcaaDoor
open Go.RowKit
set_option linter.unusedVariables false
set_option linter.unusedSimpArgs false

theorem gv_all {S : Nat → Int × Int × Int} {n i : Nat} (hg : Good n S) (hi : i < n) (hl : ∀ j, j < i → S j = (0, 0, 0)) : ∀ j, j < i + 1 → gvS S n (i : Int) j = (0, 0, 0) := by
  have hin : inB n (i : Int) = true := by unfold inB; simp; omega
  have e : ((i : Nat) : Int).toNat = i := by omega
  intro j hj
  unfold gvS
  by_cases hb : giveB S n (i : Int) = true
  · rw [if_pos hb, e]
    unfold giveB at hb
    rw [hin, e] at hb
    simp at hb
    obtain ⟨l1, _⟩ := give_cases hg hi hb
    unfold setF
    by_cases ej : j = i
    · rw [if_pos (by omega)]
    · rw [if_neg (by omega)]; exact hl j (by omega)
  · rw [if_neg hb]
    by_cases ej : j = i
    · rw [ej]
      unfold giveB at hb
      rw [hin, e] at hb
      simp at hb
      rcases hg i hi with h | ⟨c, _, _, h⟩ | ⟨k, _, _, _, h, _⟩ | ⟨h, a, k, ha, hk, h2⟩
      · exact h
      · rw [h] at hb; simp at hb
      · rw [h] at hb; simp at hb
      · rw [hl a ha] at h2; simp at h2
    · exact hl j (by omega)
theorem cnt_free {S : Nat → Int × Int × Int} : ∀ n, (∀ j, j < n → S j = (0, 0, 0)) → cntF S n = n := by
  intro n
  induction n with
  | zero => intro _; rfl
  | succ n ih =>
    intro h
    rw [cntF_succ, ih (fun j hj => h j (by omega)), h n (by omega)]
    rfl
theorem row_first {S : Nat → Int × Int × Int} {n : Nat} (h1 : 1 ≤ n) (h : ∀ j, j < n → S j = (0, 0, 0)) : rowF S n 1 = some 0 :=
  rowF_of (by omega) (by omega) (allF_iff.2 fun j _ j2 => by rw [h j (by omega)]; rfl) (fun q hq => by omega)
/-- what is given has changed, and nothing else -/
theorem gv_same {S : Nat → Int × Int × Int} {n p : Nat} (hp : p < n) (hk : (S p).1 = 1 ∨ (S p).1 = 2) : gvS S n (p : Int) = setF S p (lenP (S p)) ∧ gvE S n (p : Int) = 0 := by
  have hin : inB n (p : Int) = true := by unfold inB; simp; omega
  have e : ((p : Nat) : Int).toNat = p := by omega
  have hb : giveB S n (p : Int) = true := by
    unfold giveB
    rw [hin, e]
    rcases hk with h | h <;> simp [h]
  unfold gvS gvE
  rw [if_pos hb, if_pos hb, e]
  exact ⟨rfl, rfl⟩
theorem gv_not {S : Nat → Int × Int × Int} {n : Nat} {i : Int} (h : giveB S n i = false) : gvS S n i = S ∧ gvE S n i = 1 := by
  unfold gvS gvE
  rw [if_neg (by rw [h]; decide), if_neg (by rw [h]; decide)]
  exact ⟨rfl, rfl⟩
end Go.Proofs.YtfkmaanfgkkjcaaDoor
