/- the walks of Pm -/
import Derived.Test.YteepkghjphmegabWPt
namespace Go.Proofs.Yteepkghjphmegab
open Go.ChangeShapes Go.WideShapes Go.ChangeAt Go.RowKit
set_option linter.unusedVariables false
set_option linter.unusedSimpArgs false

theorem bits_any (b : Int) (w : World) (h1 : -9223372036854775808 ≤ b) (h2 : b ≤ 9223372036854775807) :
    Calls Try.prog 33 #[.int .i64 b] w fun e w' => e = .returned (.bool true) ∧ Below w.heap.size w w' := by
  have h0 := Below.refl w.heap.size w
  have f2 := fld2
  have e1 := bitsOf_pat b h1 h2
  have e2 := same_pat b h1 h2
  go_enter Try.func33, Try.ntmps33
  go_wp2_with (first
    | (go_at_call 37; refine (fixFloat_any _ _).mono ?_; rintro e w' ⟨rfl, rfl⟩)
    | (go_at_call 24; refine (fixBits_any _ _).mono ?_; rintro e w' ⟨rfl, rfl⟩)
    | (go_at_call 52; refine (calls_rel (refCanon_any _ _ h1 h2) (by assumption)).mono ?_; rintro e w1 ⟨rfl, hg⟩)
    | (go_at_call 45; refine (calls_rel (refParts_any _ _ h1 h2) (by assumption)).mono ?_; rintro e w1 ⟨rfl, hg⟩))
  go_ret
  exact ⟨by first | rfl | simp, by assumption⟩
end Go.Proofs.Yteepkghjphmegab
