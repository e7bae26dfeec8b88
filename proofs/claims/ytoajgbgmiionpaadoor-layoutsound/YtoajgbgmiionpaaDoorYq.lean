/- LayoutSound, together -/
import Derived.Test.YtoajgbgmiionpaaDoorYn
import Derived.Test.YtoajgbgmiionpaaDoorYp
namespace Go.Proofs.YtoajgbgmiionpaaDoor
open Go.RowKit
set_option linter.unusedVariables false
set_option linter.unusedSimpArgs false

theorem sound_any (k n s : Int) {w : World} (hT : Tab w) (n1 : -9223372036854775808 ≤ n) (n2 : n ≤ 9223372036854775807) (s1 : -9223372036854775808 ≤ s) (s2 : s ≤ 9223372036854775807) :
    Calls Tryd.prog 7 #[.int .i64 k, .int .i64 n, .int .i64 s] w fun e w' => e = .returned (.bool true) ∧ Out 0 0 w w' := by
  obtain ⟨n', hn'⟩ : ∃ n', wrap64 (n - 1) = n' := ⟨_, rfl⟩
  have PRE := sound_pre2 (sound_pre (k := k) n1 n2 hn')
  have VN := vis_num k
  have H := snd_mk k n n' s s1 s2
  by_cases hs : s < 0 ∨ 1100 < s
  · have hf : fitsB k s = false := by
      rw [← Bool.not_eq_true]; intro h; have := fits_le h; omega
    rw [hf, show flds k s = [] from by unfold flds; rw [hf]; rfl] at H
    refine sound_out H hT (role_none (.inl hf)) hn' VN PRE ?_
    by_cases h : s < 0
    · left; simpa using h
    · right; exact ⟨by simp; omega, by simp; omega⟩
  · obtain ⟨q, rfl⟩ : ∃ q : Nat, s = q := ⟨s.toNat, by omega⟩
    cases hf : fitsB k q
    · rw [hf, show flds k q = [] from by unfold flds; rw [hf]; rfl] at H
      exact sound_no H hT hf (by omega) hn' VN PRE
    · rw [hf, show flds k q = fl k q from by unfold flds; rw [hf]; rfl] at H
      have hq := fits_le hf
      rcases VN with h | h
      · exact sound_yes0 H hT hf (by omega) hn' h PRE
      · exact sound_yes1 H hT hf (by omega) hn' h PRE
end Go.Proofs.YtoajgbgmiionpaaDoor
