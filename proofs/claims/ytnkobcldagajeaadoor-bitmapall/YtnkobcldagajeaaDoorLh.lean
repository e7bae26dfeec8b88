/- the state of a script -/
import Derived.Test.YtnkobcldagajeaaDoorLg
import Derived.Test.YtnkobcldagajeaaDoorLc
import Derived.Deep.Slices
import Derived.Lib.SmallJoins
namespace Go.Proofs.YtnkobcldagajeaaDoor
open Go.ChangeShapes Go.WideShapes Go.ChangeAt Go.RowKit Go.Deep
set_option linter.unusedVariables false
set_option linter.unusedSimpArgs false

/-- a pair's blocks, from .1 on below .2.1; its own block .2.2 -/
def Dis (X Y : Nat × Nat × Nat) : Prop := X.2.1 ≤ Y.1 ∨ Y.2.1 ≤ X.1
def Good (w0 w : World) (L : Nat) (D : Nat × Nat × Nat) : Prop := (∃ n S, PairAt w D.1 D.2.1 D.2.2 n S) ∧ w0.heap.size ≤ D.1 ∧ D.1 < D.2.1 ∧ D.2.1 ≤ w.heap.size ∧ (L < D.1 ∨ D.2.1 ≤ L) ∧ 0 < D.1 ∧ D.1 ≤ D.2.2 ∧ D.2.2 < D.2.1
def Play (w0 w : World) (L : Nat) (A B X Y : Nat × Nat × Nat) : Prop :=
  w.heap[L]? = some (.cells #[.pointer (some ⟨X.2.2, 0, none⟩), .pointer (some ⟨Y.2.2, 0, none⟩)] 23 (0, 0)) ∧ w0.heap.size ≤ L ∧ 0 < L ∧ Good w0 w L A ∧ Good w0 w L B ∧ Good w0 w L X ∧ Good w0 w L Y ∧
    Dis A B ∧ (X = A ∨ Dis X A) ∧ Dis X B ∧ (Y = B ∨ Dis Y B) ∧ Dis Y A ∧ Dis X Y ∧ Out 0 0 w0 w
section
variable {w0 w w' : World} {L : Nat} {A B X Y D E : Nat × Nat × Nat}
theorem Good.kept (h : Good w0 w L D) {lo hi : Nat} (o : Out lo hi w w') (hd : D.2.1 ≤ lo ∨ hi ≤ D.1) (hp : 0 < lo ∨ hi = 0) : Good w0 w' L D := by
  obtain ⟨⟨n, S, hP⟩, h1, h2, h3, h4⟩ := h
  exact ⟨⟨n, S, hP.kept o hd hp⟩, h1, h2, Nat.le_trans h3 o.size, h4⟩
theorem Good.act (h : Good w0 w L D) {n : Nat} {S : Nat → Bool} (hP : PairAt w' D.1 D.2.1 D.2.2 n S) (o : Out D.1 D.2.1 w w') : Good w0 w' L D := by
  obtain ⟨_, h1, h2, h3, h4⟩ := h
  exact ⟨⟨n, S, hP⟩, h1, h2, Nat.le_trans h3 o.size, h4⟩
theorem Good.other (h : Good w0 w L D) (hE : Good w0 w L E) {n : Nat} {S : Nat → Bool} (hP : PairAt w' E.1 E.2.1 E.2.2 n S) (o : Out E.1 E.2.1 w w') (hd : E = D ∨ Dis E D) : Good w0 w' L D := by
  rcases hd with e | e
  · subst e; exact h.act hP o
  · exact h.kept o (by unfold Dis at e; omega) (.inl hE.2.2.2.2.2.1)
theorem Dis.symm (h : Dis X Y) : Dis Y X := Or.symm h
theorem Play.quiet (h : Play w0 w L A B X Y) (o : Out 0 0 w w') : Play w0 w' L A B X Y := by
  obtain ⟨a1, a2, a3, a4, a5, a6, a7, r1, r2, r3, r4, r5, r6, a8⟩ := h
  have k : ∀ D, Good w0 w L D → Good w0 w' L D := fun D hD => hD.kept o (.inr (Nat.zero_le _)) (.inr rfl)
  exact ⟨o.heap a1 (.inr (Nat.zero_le _)), a2, a3, k _ a4, k _ a5, k _ a6, k _ a7, r1, r2, r3, r4, r5, r6, a8.trans o⟩
theorem Play.actX (h : Play w0 w L A B X Y) {n : Nat} {S : Nat → Bool} (hP : PairAt w' X.1 X.2.1 X.2.2 n S) (o : Out X.1 X.2.1 w w') : Play w0 w' L A B X Y := by
  obtain ⟨a1, a2, a3, a4, a5, a6, a7, r1, r2, r3, r4, r5, r6, a8⟩ := h
  have hx := a6.2.2.2.2.1
  exact ⟨o.heap a1 (by omega), a2, a3, a4.other a6 hP o r2, a5.other a6 hP o (.inr r3), a6.act hP o, a7.other a6 hP o (.inr r6), r1, r2, r3, r4, r5, r6, a8.past o a6.2.1⟩
theorem Play.actY (h : Play w0 w L A B X Y) {n : Nat} {S : Nat → Bool} (hP : PairAt w' Y.1 Y.2.1 Y.2.2 n S) (o : Out Y.1 Y.2.1 w w') : Play w0 w' L A B X Y := by
  obtain ⟨a1, a2, a3, a4, a5, a6, a7, r1, r2, r3, r4, r5, r6, a8⟩ := h
  have hx := a7.2.2.2.2.1
  exact ⟨o.heap a1 (by omega), a2, a3, a4.other a7 hP o (.inr r5), a5.other a7 hP o r4, a6.other a7 hP o (.inr r6.symm), a7.act hP o, r1, r2, r3, r4, r5, r6, a8.past o a7.2.1⟩
theorem Play.cells (h : Play w0 w L A B X Y) : w.cell? ⟨L, 0, none⟩ = some (.pointer (some ⟨X.2.2, 0, none⟩)) ∧ w.cell? ⟨L, 1, none⟩ = some (.pointer (some ⟨Y.2.2, 0, none⟩)) ∧ w.frozen? ⟨L, 0, none⟩ = false ∧ w.frozen? ⟨L, 1, none⟩ = false := by
  have hb := h.1
  refine ⟨?_, ?_, ?_, ?_⟩ <;> simp [World.cell?, World.frozen?, hb]
/-- the other map has become a copy: it lies behind all that was there -/
theorem Play.newY (h : Play w0 w L A B X Y) {n : Nat} {S : Nat → Bool} {N : Nat × Nat × Nat} (hP : PairAt w' N.1 N.2.1 N.2.2 n S) (n1 : w.heap.size ≤ N.1) (n2 : N.1 < N.2.1) (n3 : N.2.1 ≤ w'.heap.size) (n4 : N.1 ≤ N.2.2 ∧ N.2.2 < N.2.1)
    (o : Out L (L + 1) w w') (hL : w'.heap[L]? = some (.cells #[.pointer (some ⟨X.2.2, 0, none⟩), .pointer (some ⟨N.2.2, 0, none⟩)] 23 (0, 0))) : Play w0 w' L A B X N := by
  obtain ⟨a1, a2, a3, a4, a5, a6, a7, r1, r2, r3, r4, r5, r6, a8⟩ := h
  have hlt := heap_lt a1
  have k : ∀ D, Good w0 w L D → Good w0 w' L D := fun D hD => hD.kept o (by have := hD.2.2.2.2.1; omega) (.inl a3)
  have hN : ∀ D, Good w0 w L D → Dis N D := fun D hD => .inr (Nat.le_trans hD.2.2.2.1 n1)
  exact ⟨hL, a2, a3, k _ a4, k _ a5, k _ a6, ⟨⟨n, S, hP⟩, by have := a8.size; omega, n2, n3, .inl (by omega), by omega, n4⟩, r1, r2, r3, .inr (hN _ a5), hN _ a4, (hN _ a6).symm, a8.past o a2⟩
theorem Play.newX (h : Play w0 w L A B X Y) {n : Nat} {S : Nat → Bool} {N : Nat × Nat × Nat} (hP : PairAt w' N.1 N.2.1 N.2.2 n S) (n1 : w.heap.size ≤ N.1) (n2 : N.1 < N.2.1) (n3 : N.2.1 ≤ w'.heap.size) (n4 : N.1 ≤ N.2.2 ∧ N.2.2 < N.2.1)
    (o : Out L (L + 1) w w') (hL : w'.heap[L]? = some (.cells #[.pointer (some ⟨N.2.2, 0, none⟩), .pointer (some ⟨Y.2.2, 0, none⟩)] 23 (0, 0))) : Play w0 w' L A B N Y := by
  obtain ⟨a1, a2, a3, a4, a5, a6, a7, r1, r2, r3, r4, r5, r6, a8⟩ := h
  have hlt := heap_lt a1
  have k : ∀ D, Good w0 w L D → Good w0 w' L D := fun D hD => hD.kept o (by have := hD.2.2.2.2.1; omega) (.inl a3)
  have hN : ∀ D, Good w0 w L D → Dis N D := fun D hD => .inr (Nat.le_trans hD.2.2.2.1 n1)
  exact ⟨hL, a2, a3, k _ a4, k _ a5, ⟨⟨n, S, hP⟩, by have := a8.size; omega, n2, n3, .inl (by omega), by omega, n4⟩, k _ a7, r1, .inr (hN _ a4), hN _ a5, r4, r5, hN _ a7, a8.past o a2⟩
end
/-! the script among the arguments -/
def StepAt (W : World) (b off : Nat) (q : Int × Int × Int × Int × Int) : Prop := W.cell? ⟨b, off, none⟩ = some (.int .i64 q.1) ∧ W.cell? ⟨b, off + 1, none⟩ = some (.int .i64 q.2.1) ∧ W.cell? ⟨b, off + 2, none⟩ = some (.int .i64 q.2.2.1) ∧ W.cell? ⟨b, off + 3, none⟩ = some (.int .i64 q.2.2.2.1) ∧ W.cell? ⟨b, off + 4, none⟩ = some (.int .i64 q.2.2.2.2) ∧ q.2.2.1 < 9223372036854775808
def Steps (W : World) (b off len : Nat) (q : Nat → Int × Int × Int × Int × Int) : Prop := ∀ i, i < len → StepAt W b (off + i * 5) (q i)
theorem cell_lt {W : World} {b off : Nat} {v : Value} (h : W.cell? ⟨b, off, none⟩ = some v) : b < W.heap.size := by
  by_cases hb : b < W.heap.size
  · exact hb
  · have : W.heap[b]? = none := Array.getElem?_eq_none (by omega)
    simp [World.cell?, this] at h
theorem Steps.kept {W W' : World} {b off len : Nat} {q : Nat → Int × Int × Int × Int × Int} (h : Steps W b off len q) (o : Out 0 0 W W') : Steps W' b off len q := by
  intro i hi
  obtain ⟨c0, c1, c2, c3, c4, r⟩ := h i hi
  exact ⟨o.cell c0 (.inr (Nat.zero_le _)), o.cell c1 (.inr (Nat.zero_le _)), o.cell c2 (.inr (Nat.zero_le _)), o.cell c3 (.inr (Nat.zero_le _)), o.cell c4 (.inr (Nat.zero_le _)), r⟩
theorem cells_op : Tryd.prog.cellsOf 52 = 5 := by kernel_rfl
theorem cells_int : Tryd.prog.cellsOf 3 = 1 := by kernel_rfl
theorem i64_bounds {n : Int} (h : (Lit.int .i64 n).wf = true) : -9223372036854775808 ≤ n ∧ n ≤ 9223372036854775807 := by
  simpa [Lit.wf, IntKind.min, IntKind.max, IntKind.signed, IntKind.bits] using h
theorem trod_struct5 {H : Type} {enc : TypeId × Value → H} {P : Program} {w : World} {base : Nat} {spare : Nat → Bool} {held : Bool} {t : TypeId} {f0 f1 f2 f3 f4 : Field} {fuel : Nat} {cs : List Value} {x : DataW H × List MemPlace} (ht : P.underlying t = some (.struct #[f0, f1, f2, f3, f4])) (h : DataW.trod enc P w base spare held fuel t cs = some x) :
    ∃ (y0 y1 y2 y3 y4 : DataW H × List MemPlace) (n : Nat), DataW.trod enc P w base spare held n f0.type ((cs.drop f0.offset).take (P.cellsOf f0.type)) = some y0 ∧ DataW.trod enc P w base spare held n f1.type ((cs.drop f1.offset).take (P.cellsOf f1.type)) = some y1 ∧
      DataW.trod enc P w base spare held n f2.type ((cs.drop f2.offset).take (P.cellsOf f2.type)) = some y2 ∧ DataW.trod enc P w base spare held n f3.type ((cs.drop f3.offset).take (P.cellsOf f3.type)) = some y3 ∧ DataW.trod enc P w base spare held n f4.type ((cs.drop f4.offset).take (P.cellsOf f4.type)) = some y4 := by
  obtain ⟨xs, n, _, rfl, hl, hlen, hf⟩ := DataW.trod_struct ht h
  match xs, hlen with
  | [y0, y1, y2, y3, y4], _ => exact ⟨y0, y1, y2, y3, y4, n, by simpa using hf 0 f0 rfl, by simpa using hf 1 f1 rfl, by simpa using hf 2 f2 rfl, by simpa using hf 3 f3 rfl, by simpa using hf 4 f4 rfl⟩
theorem open_steps {H : Type} {enc : TypeId × Value → H} {W : World} {fuel : Nat} {cs : List Value} {x : DataW H × List MemPlace} (h : DataW.trod enc Tryd.prog W 0 (fun _ => true) true fuel 27 cs = some x) :
    cs = [.slice none 0 0] ∨ ∃ (a : Addr) (len cap : Nat), cs = [.slice (some a) len cap] ∧ (0 < len → ∃ b off q, a = ⟨b, off, none⟩ ∧ Steps W b off len q) := by
  rcases open_slice Tryd.underlying27 h with h0 | ⟨a, len, cap, m, n, D, Pl, rfl, hb, hl, hm, hmm, rfl, hx⟩
  · exact .inl h0.1
  right
  refine ⟨a, len, cap, rfl, fun hpos => ?_⟩
  simp only [if_true] at hmm
  subst hmm
  have each : ∀ i, i < len → ∃ q : Int × Int × Int × Int × Int, W.cell? (a.add (i * 5)) = some (.int .i64 q.1) ∧ W.cell? (a.add (i * 5 + 1)) = some (.int .i64 q.2.1) ∧ W.cell? (a.add (i * 5 + 2)) = some (.int .i64 q.2.2.1) ∧ W.cell? (a.add (i * 5 + 3)) = some (.int .i64 q.2.2.2.1) ∧
      W.cell? (a.add (i * 5 + 4)) = some (.int .i64 q.2.2.2.2) ∧ q.2.2.1 < 9223372036854775808 := by
    intro i hi
    obtain ⟨cs', h1, h2⟩ := hx i (by omega)
    rw [cells_op] at h1
    obtain ⟨_, hlen, hcell⟩ := World.cells?_some h1
    obtain ⟨y0, y1, y2, y3, y4, n', g0, g1, g2, g3, g4⟩ := trod_struct5 Tryd.underlying52 h2
    match cs', hlen with
    | [v0, v1, v2, v3, v4], _ =>
      simp [cells_int] at g0 g1 g2 g3 g4
      obtain ⟨z0, e0, _, w0⟩ := DataW.trod_int Tryd.underlying3 g0
      obtain ⟨z1, e1, _, w1⟩ := DataW.trod_int Tryd.underlying3 g1
      obtain ⟨z2, e2, _, w2⟩ := DataW.trod_int Tryd.underlying3 g2
      obtain ⟨z3, e3, _, w3⟩ := DataW.trod_int Tryd.underlying3 g3
      obtain ⟨z4, e4, _, w4⟩ := DataW.trod_int Tryd.underlying3 g4
      simp only [List.cons.injEq, and_true] at e0 e1 e2 e3 e4
      have f0 := hcell 0 (by omega)
      have f1 := hcell 1 (by omega)
      have f2 := hcell 2 (by omega)
      have f3 := hcell 3 (by omega)
      have f4 := hcell 4 (by omega)
      rw [add_add] at f0 f1 f2 f3 f4
      have r2 := (i64_bounds w2).2
      exact ⟨(z0, z1, z2, z3, z4), by simpa [e0] using f0, by simpa [e1] using f1, by simpa [e2] using f2, by simpa [e3] using f3, by simpa [e4] using f4, by show z2 < _; omega⟩
  obtain ⟨q, hq⟩ := choose_lt each
  obtain ⟨b, off, spot⟩ := a
  have hspot : spot = none := by
    have := (hq 0 hpos).1
    simpa [Addr.add] using World.cell?_spot this
  subst hspot
  refine ⟨b, off, q, rfl, fun i hi => ?_⟩
  obtain ⟨c0, c1, c2, c3, c4, r⟩ := hq i hi
  rw [add_plain] at c0 c1 c2 c3 c4
  exact ⟨c0, by rw [Nat.add_assoc]; exact c1, by rw [Nat.add_assoc]; exact c2, by rw [Nat.add_assoc]; exact c3, by rw [Nat.add_assoc]; exact c4, r⟩
end Go.Proofs.YtnkobcldagajeaaDoor
