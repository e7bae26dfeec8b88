/- BitmapWalk's state in its first loop -/
import Derived.Test.YtnkobcldagajeabDoorMd
namespace Go.Proofs.YtnkobcldagajeabDoor
open Go.RowKit
set_option linter.unusedVariables false
set_option linter.unusedSimpArgs false

def WalkAt (w wr : World) (B T n lo hi m : Nat) (S : Nat → Bool) (vt : Value) (pre : List Nat) : Prop :=
  Box wr B 3 (.int .i64 n) ∧ Box wr T 22 vt ∧ wr.ownsRow (T + 1) 3 1 vt pre.length (ints pre) ∧ MapAt wr lo hi m n S ∧ Out 0 0 w wr ∧ hi ≤ T ∧ B < T ∧ w.heap.size ≤ B
theorem WalkAt.quiet {w wr wr' : World} {B T n lo hi m : Nat} {S : Nat → Bool} {vt : Value} {pre : List Nat} (h : WalkAt w wr B T n lo hi m S vt pre) (o : Out 0 0 wr wr') : WalkAt w wr' B T n lo hi m S vt pre :=
  ⟨h.1.kept o (.inr (Nat.zero_le _)), h.2.1.kept o (.inr (Nat.zero_le _)), own_kept h.2.2.1 o (Nat.zero_le _), h.2.2.2.1.quiet o, h.2.2.2.2.1.trans o, h.2.2.2.2.2⟩
theorem WalkAt.grown {w wr w6 : World} {B T n lo hi m k : Nat} {S : Nat → Bool} {vt v' : Value} {pre : List Nat} (h : WalkAt w wr B T n lo hi m S vt pre) (ho : w6.ownsRow (T + 1) 3 1 v' (pre.length + 1) (ints pre ++ [.int .i64 k])) (hg : wr.grownBy w6 vt.ownBlock) :
    Box w6 T 22 vt ∧ WalkAt w (w6.setCell ⟨T, 0, none⟩ v') B T n lo hi m S v' (pre ++ [k]) := by
  obtain ⟨h1, h2, h3, h4, h5, h6, h7, h8⟩ := h
  have o := own_out h3 hg
  have b := h2.kept o (.inl (Nat.lt_succ_self _))
  have s : Out T (T + 1) w6 (w6.setCell ⟨T, 0, none⟩ v') := (Out.refl _ _ _).setCell (.inl ⟨Nat.le_refl _, Nat.lt_succ_self _⟩) _
  refine ⟨b, (h1.kept o (.inl (by omega))).kept s (.inl h7), b.set v', ?_, (h4.kept o (.inl (by omega)) (.inl (by omega))).kept s (.inl h6) (.inl (by omega)), (h5.past o (by omega)).past s (by omega), h6, h7, h8⟩
  have e : ints (pre ++ [k]) = ints pre ++ [.int .i64 k] := by simp [ints]
  rw [e, List.length_append]
  exact own_kept ho s (Nat.le_refl _)
theorem WalkAt.lt {w wr : World} {B T n lo hi m : Nat} {S : Nat → Bool} {vt : Value} {pre : List Nat} (h : WalkAt w wr B T n lo hi m S vt pre) : T < wr.heap.size := h.2.1.lt
end Go.Proofs.YtnkobcldagajeabDoor
