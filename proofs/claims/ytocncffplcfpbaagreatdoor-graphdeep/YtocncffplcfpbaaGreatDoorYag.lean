/- worlds; the numbers of chapter 6 -/
import Derived.Test.YtocncffplcfpbaaGreatDoorGra
namespace Go.Proofs.YtocncffplcfpbaaGreatDoor
open Go.RowKit
set_option linter.unusedVariables false
set_option linter.unusedSimpArgs false

/-! the numbers -/
def spineB (n : Int) : Bool := n == 4 || n == 8 || n == 16 || n == 32 || n == 64 || n == 128 || n == 256 || n == 512
def knownB (k : Int) : Bool := decide (1 ≤ k) && decide (k ≤ 13)
def sizeB (k n : Int) : Bool := knownB k && decide (0 ≤ n) && decide (n ≤ mo k) && (k != 12 || spineB n)
def partW (k n : Int) : Int := if k = 4 then (n + 7) / 8 else n
def sizeV (k n : Int) : Int := if sizeB k n then wd k + partW k n else 0
/-- the most words behind the first -/
def fitsB (k s : Int) : Bool := knownB k && decide (wd k ≤ s) && decide (s ≤ wd k + partW k (mo k)) && (k != 12 || spineB (s - 1))
def frameW (i : Int) : Int := if i == 2 then 7 else if i == 3 || i == 4 then 1 else 2
/-- the role of word i (from 1 on) of an object of kind k -/
def roleW (k i : Int) : Int :=
  if k == 8 && i == 1 then 3 else if k == 1 || k == 2 || k == 3 || k == 6 || k == 8 then 2 else
  if k == 10 && i == 2 then 8 else if k == 4 || k == 5 || k == 10 then 1 else
  if k == 11 && decide (1 < i) then frameW i else if k == 7 || k == 11 then 6 else if k == 12 then 9 else
  if k == 13 && i == 3 then 9 else if k == 9 || k == 13 then (if i == 1 then 4 else 5) else 0
def roleV (k s i : Int) : Int := if fitsB k s = true ∧ 1 ≤ i ∧ i < s then roleW k i else 0
theorem known_iff {k : Int} : knownB k = true ↔ 1 ≤ k ∧ k ≤ 13 := by unfold knownB; simp
theorem known_nat {k : Int} (h : knownB k = true) : ∃ j : Nat, k = j ∧ 1 ≤ j ∧ j ≤ 13 := ⟨k.toNat, by have := known_iff.1 h; omega, by have := known_iff.1 h; omega, by have := known_iff.1 h; omega⟩
theorem kinds {j : Nat} (h1 : 1 ≤ j) (h2 : j ≤ 13) : j = 1 ∨ j = 2 ∨ j = 3 ∨ j = 4 ∨ j = 5 ∨ j = 6 ∨ j = 7 ∨ j = 8 ∨ j = 9 ∨ j = 10 ∨ j = 11 ∨ j = 12 ∨ j = 13 := by omega
theorem wd_mo {j : Nat} (h1 : 1 ≤ j) (h2 : j ≤ 13) : 1 ≤ wd j ∧ wd j ≤ 5 ∧ 0 ≤ mo j ∧ mo j ≤ 4096 ∧ (j ≠ 4 → mo j ≤ 1023) ∧ (j = 4 → wd j = 2 ∧ mo j = 4096) ∧ (j = 12 → wd j = 1 ∧ mo j = 512) := by
  rcases kinds h1 h2 with rfl | rfl | rfl | rfl | rfl | rfl | rfl | rfl | rfl | rfl | rfl | rfl | rfl <;> decide
end Go.Proofs.YtocncffplcfpbaaGreatDoor
