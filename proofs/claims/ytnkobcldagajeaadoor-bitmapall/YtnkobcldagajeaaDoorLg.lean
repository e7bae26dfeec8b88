/- looked -/
import Derived.Test.YtnkobcldagajeaaDoorLg1
import Derived.Test.YtnkobcldagajeaaDoorLg2
import Derived.Test.YtnkobcldagajeaaDoorLg3
import Derived.Test.YtnkobcldagajeaaDoorLg4
namespace Go.Proofs.YtnkobcldagajeaaDoor
open Go.RowKit
set_option linter.unusedVariables false
set_option linter.unusedSimpArgs false

theorem looked_any {w : World} {lo hi p n : Nat} {S : Nat → Bool} {b r g l1 h1 l2 h2 : Nat} (h : PairIn w lo hi p n S S b r g l1 h1 l2 h2) (o : Int × Int × Int × Int × Int) (hx : o.2.2.1 < 9223372036854775808) :
    Calls Tryd.prog 25 #[.pointer (some ⟨p, 0, none⟩), opV o] w fun e w' => e = .returned (.bool true) ∧ ∃ S', PairIn w' lo hi p n S' S' b r g l1 h1 l2 h2 ∧ Out lo hi w w' := by
  obtain ⟨z, kd, x, y, c⟩ := o
  unfold opV
  simp only at hx ⊢
  by_cases k10 : kd = 10
  · exact looked_10 h z kd x y c hx k10
  by_cases k11 : kd = 11
  · exact looked_11 h z kd x y c hx k11
  by_cases k12 : kd = 12
  · exact looked_12 h z kd x y c hx k12
  by_cases k13 : kd = 13
  · exact looked_13 h z kd x y c hx k13
  by_cases k14 : kd = 14
  · by_cases hx0 : x = 0
    · exact looked_14z h z kd x y c hx k14 hx0
    · exact looked_14 h z kd x y c hx k14 hx0
  by_cases k15 : kd = 15
  · exact looked_15 h z kd x y c hx k15
  by_cases k16 : kd = 16
  · exact looked_16 h z kd x y c hx k16
  by_cases k17 : kd = 17
  · exact looked_17 h z kd x y c hx k17
  · exact looked_else h z kd x y c hx (by omega)
end Go.Proofs.YtnkobcldagajeaaDoor
