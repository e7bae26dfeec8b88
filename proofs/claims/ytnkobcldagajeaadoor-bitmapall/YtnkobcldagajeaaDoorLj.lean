/- scripts -/
import Derived.Test.YtnkobcldagajeaaDoorLh
import Derived.Laws.EntriesVeiled
namespace Go.Proofs.YtnkobcldagajeaaDoor
open Go.RowKit
set_option linter.unusedVariables false
set_option linter.unusedSimpArgs false

/-- a copy is laid: the blocks behind w6 -/
theorem copied_pair {w5 w6 wG wA : World} {L b' r' n : Nat} {S : Nat → Bool} (o5 : Out 0 0 wG w5) (o6 : Out 0 0 w5 w6) (hm : MapAt w5 wG.heap.size w5.heap.size b' n S) (hr : RefAt w6 w5.heap.size w6.heap.size r' n S) (hL : L < wG.heap.size) (hL0 : 0 < L)
    (cA : wA.heap[w6.heap.size]? = some (.cells #[.pointer (some ⟨b', 0, none⟩), .pointer (some ⟨r', 0, none⟩), allV (w6.heap.size + 1)] 44 (0, 0))) (bA : Box wA (w6.heap.size + 1) 30 (.pointer (some ⟨b', 0, none⟩))) (oA : Out L (L + 1) w6 wA) (zA : w6.heap.size + 2 ≤ wA.heap.size) :
    PairAt wA wG.heap.size (w6.heap.size + 2) w6.heap.size n S ∧ Out L (L + 1) wG wA := by
  have s5 := o5.size
  have s6 := o6.size
  have m1 := hm.bounds
  have r1 := hr.bounds
  refine ⟨⟨b', r', w6.heap.size + 1, wG.heap.size, w5.heap.size, w5.heap.size, w6.heap.size, cA, bA, ?_, ?_, Nat.le_refl _, Nat.le_refl _, Nat.le_refl _, by omega, by omega, by omega, by omega, by omega, by omega⟩, ((o5.trans o6).any _ _).trans oA⟩
  · exact (hm.quiet o6).kept oA (.inr (by omega)) (.inl hL0)
  · exact hr.kept oA (.inr (by omega))
theorem three_set {w : World} {G L e P : Nat} {u v x y : Value} (h : w.cell? ⟨G, 0, none⟩ = some u ∧ w.cell? ⟨L, e, none⟩ = some v ∧ w.cell? ⟨P, 0, none⟩ = some x) (h1 : G ≠ P) (h2 : L ≠ P) :
    (w.setCell ⟨P, 2, none⟩ y).cell? ⟨G, 0, none⟩ = some u ∧ (w.setCell ⟨P, 2, none⟩ y).cell? ⟨L, e, none⟩ = some v ∧ (w.setCell ⟨P, 2, none⟩ y).cell? ⟨P, 0, none⟩ = some x := by
  obtain ⟨a, b, c⟩ := h
  refine ⟨?_, ?_, ?_⟩
  · rw [World.cell?_setCell_other _ _ _ _ (by first | (simp; done) | (simp; omega))]; exact a
  · rw [World.cell?_setCell_other _ _ _ _ (by first | (simp; done) | (simp; omega))]; exact b
  · rw [World.cell?_setCell_other _ _ _ _ (by simp)]; exact c
theorem bit01 (z : Int) : bits .and .i64 z 1 = 0 ∨ bits .and .i64 z 1 = 1 := by
  have e : bits .and .i64 z 1 = IntKind.wrap .i64 ((BitVec.ofInt 64 z &&& BitVec.ofInt 64 1).toNat : Nat) := rfl
  rw [e]
  have h : (BitVec.ofInt 64 z &&& BitVec.ofInt 64 1).toNat ≤ 1 := by
    rw [BitVec.toNat_and]
    exact Nat.le_trans Nat.and_le_right (by decide)
  generalize (BitVec.ofInt 64 z &&& BitVec.ofInt 64 1).toNat = m at *
  have : m = 0 ∨ m = 1 := by omega
  rcases this with rfl | rfl
  · exact .inl rfl
  · exact .inr rfl
end Go.Proofs.YtnkobcldagajeaaDoor
