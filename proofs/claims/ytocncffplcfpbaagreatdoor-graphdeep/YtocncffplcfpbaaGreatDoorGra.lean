/- graph: the variables of the packages -/
import Derived.Test.YtocncffplcfpbaaGreatDoorXlb
import Derived.Test.YtocncffplcfpbaaGreatDoorIm
import Derived.Test.YtocncffplcfpbaaGreatDoorIb
import Derived.Test.YtocncffplcfpbaaGreatDoorIu
namespace Go.Proofs.YtocncffplcfpbaaGreatDoor
open Go.RowKit
set_option linter.unusedVariables false
set_option linter.unusedSimpArgs false

/-- the words of an object of a kind that has no parts, and the most parts -/
def wd (k : Int) : Int := [0, 3, 2, 1, 2, 2, 1, 2, 3, 3, 3, 5, 1, 4].getD k.toNat 0
def mo (k : Int) : Int := [0, 0, 0, 1023, 4096, 0, 64, 0, 0, 0, 0, 128, 512, 0].getD k.toNat 0
/-- the raw numbers and fields of a node that has no parts -/
def fr (k : Int) : Int := [0, 0, 0, 0, 0, 1, 1, 0, 0, 0, 0, 3].getD k.toNat 0
def ff (k : Int) : Int := [0, 2, 1, 0, 0, 0, 0, 1, 2, 2, 0, 2].getD k.toNat 0
def Tab (w : World) : Prop := 2 ≤ w.heap.size ∧
  (∀ j : Nat, j < 14 → w.cell? ⟨1, j * 2, none⟩ = some (.int .i64 (wd j)) ∧ w.cell? ⟨1, j * 2 + 1, none⟩ = some (.int .i64 (mo j))) ∧
  (∀ j : Nat, j < 12 → w.cell? ⟨0, j * 2, none⟩ = some (.int .i64 (fr j)) ∧ w.cell? ⟨0, j * 2 + 1, none⟩ = some (.int .i64 (ff j)))
theorem Tab.fx {S : Nat → Prop} {w w' : World} (h : Tab w) (x : Fx S w w') (hS : ∀ k, S k → 2 ≤ k) : Tab w' :=
  ⟨Nat.le_trans h.1 x.size, fun j hj => ⟨x.cell (h.2.1 j hj).1 (fun q => by have := hS _ q; omega), x.cell (h.2.1 j hj).2 (fun q => by have := hS _ q; omega)⟩, fun j hj => ⟨x.cell (h.2.2 j hj).1 (fun q => by have := hS _ q; omega), x.cell (h.2.2 j hj).2 (fun q => by have := hS _ q; omega)⟩⟩
theorem Tab.quiet {w w' : World} (h : Tab w) (o : Out 0 0 w w') : Tab w' := h.fx (S := fun _ => False) (Fx.of_out o) (fun _ q => q.elim)
theorem out_below {w w' : World} (h : Below w.heap.size w w') : Out 0 0 w w' := Out.of_below h 0 0
end Go.Proofs.YtocncffplcfpbaaGreatDoor
