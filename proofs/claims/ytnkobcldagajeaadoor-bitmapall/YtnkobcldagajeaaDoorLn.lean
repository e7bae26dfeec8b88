/- every script -/
import Derived.Test.YtnkobcldagajeaaDoorLm
namespace Go.Proofs.YtnkobcldagajeaaDoor
open Go.RowKit
set_option linter.unusedVariables false
set_option linter.unusedSimpArgs false

theorem plays_any (n k u v : Int) {w : World} (hT : Tab w) {sv : Value} (h : sv = .slice none 0 0 ∨ ∃ (a : Addr) (len cap : Nat), sv = .slice (some a) len cap ∧ (0 < len → ∃ b off q, a = ⟨b, off, none⟩ ∧ Steps w b off len q)) :
    Calls Tryd.prog 12 #[.int .i64 n, .int .i64 k, sv, .int .i64 u, .int .i64 v] w fun e w' => e = .returned (.bool true) ∧ Out 0 0 w w' := by
  by_cases hm : (20000 < n ∧ n ≤ 262144) ∨ (20000 < k ∧ k ≤ 262144)
  · exact plays_mid n k u v sv w hT hm
  by_cases hb : n < 0 ∨ 262144 < n ∨ k < 0 ∨ 262144 < k
  · exact plays_nil n k u v sv w hT (by omega) (by omega) hb
  obtain ⟨n', rfl⟩ := Int.eq_ofNat_of_zero_le (show 0 ≤ n by omega)
  obtain ⟨k', rfl⟩ := Int.eq_ofNat_of_zero_le (show 0 ≤ k by omega)
  rcases h with rfl | ⟨a, len, cap, rfl, h⟩
  · exact plays_none n' k' u v (by omega) (by omega) none 0 hT
  · by_cases h0 : 0 < len
    · obtain ⟨b, off, q, rfl, hS⟩ := h h0
      exact plays_some n' k' u v (by omega) (by omega) b off len cap q hT hS h0
    · obtain rfl : len = 0 := by omega
      exact plays_none n' k' u v (by omega) (by omega) (some a) cap hT
end Go.Proofs.YtnkobcldagajeaaDoor
