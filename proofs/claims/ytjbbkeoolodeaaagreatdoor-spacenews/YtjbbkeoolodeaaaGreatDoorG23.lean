import Derived.Test.YtjbbkeoolodeaaaGreatDoorG21
import Derived.Test.YtjbbkeoolodeaaaGreatDoorG22
import Derived.Test.YtjbbkeoolodeaaaGreatDoorG08
namespace Go.Proofs.YtjbbkeoolodeaaaGreatDoor
open Go.RowKit
set_option linter.unusedVariables false
set_option linter.unusedSimpArgs false

end Go.Proofs.YtjbbkeoolodeaaaGreatDoor
namespace Go.Proofs.YtjbbkeoolodeaaaGreatDoor
open Go.RowKit
set_option linter.unusedVariables false
set_option linter.unusedSimpArgs false

end Go.Proofs.YtjbbkeoolodeaaaGreatDoor
namespace Go.Proofs.YtjbbkeoolodeaaaGreatDoor
open Go.RowKit
set_option linter.unusedVariables false
set_option linter.unusedSimpArgs false

end Go.Proofs.YtjbbkeoolodeaaaGreatDoor
namespace Go.Proofs.YtjbbkeoolodeaaaGreatDoor
open Go.RowKit
set_option linter.unusedVariables false
set_option linter.unusedSimpArgs false

/-- a step: its kind, three numbers, a list -/
structure OpQ where
  k : Int
  a : Int
  b : Int
  c : Int
  L : List Int
/-- a script among the arguments: below b -/
def ScrAt (w : World) (b : Nat) (p : Option Addr) (os : List OpQ) : Prop :=
  (∀ o ∈ os, -9223372036854775808 ≤ o.a ∧ o.a ≤ 9223372036854775807 ∧ -9223372036854775808 ≤ o.b ∧ o.b ≤ 9223372036854775807) ∧
  (os = [] ∨ ∃ g off, p = some ⟨g, off, none⟩ ∧ g < b ∧ ∀ j o, os[j]? = some o → ∃ (x : Int) (lp : Option Addr) (lc : Nat), w.cell? ⟨g, off + j * 6, none⟩ = some (.int .i64 x) ∧ w.cell? ⟨g, off + j * 6 + 1, none⟩ = some (.int .i64 o.k) ∧ w.cell? ⟨g, off + j * 6 + 2, none⟩ = some (.int .i64 o.a) ∧ w.cell? ⟨g, off + j * 6 + 3, none⟩ = some (.int .i64 o.b) ∧ w.cell? ⟨g, off + j * 6 + 4, none⟩ = some (.int .i64 o.c) ∧ w.cell? ⟨g, off + j * 6 + 5, none⟩ = some (.slice lp o.L.length lc) ∧ SlI w b lp o.L)
theorem ScrAt.kept {w w' : World} {b x y : Nat} {p : Option Addr} {os : List OpQ} (h : ScrAt w b p os) (o : Out x y w w') (hx : b ≤ x ∨ y = 0) : ScrAt w' b p os := by
  refine ⟨h.1, ?_⟩
  rcases h.2 with h | ⟨g, off, h1, h2, h3⟩
  · exact .inl h
  · refine .inr ⟨g, off, h1, h2, fun j q hq => ?_⟩
    obtain ⟨x', lp, lc, c0, c1, c2, c3, c4, c5, c6⟩ := h3 j q hq
    have hg : g < x ∨ y ≤ g := by omega
    exact ⟨x', lp, lc, o.cell c0 hg, o.cell c1 hg, o.cell c2 hg, o.cell c3 hg, o.cell c4 hg, o.cell c5 hg, c6.kept o hx⟩
end Go.Proofs.YtjbbkeoolodeaaaGreatDoor
namespace Go.Proofs.YtjbbkeoolodeaaaGreatDoor
open Go.RowKit
set_option linter.unusedVariables false
set_option linter.unusedSimpArgs false

end Go.Proofs.YtjbbkeoolodeaaaGreatDoor
namespace Go.Proofs.YtjbbkeoolodeaaaGreatDoor
open Go.RowKit
set_option linter.unusedVariables false
set_option linter.unusedSimpArgs false

end Go.Proofs.YtjbbkeoolodeaaaGreatDoor
