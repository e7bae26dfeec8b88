/- the law CheckOrder: its numbers -/
import Derived.Test.YtagnpedkomehaaaDoorCku
import Derived.Test.YtagnpedkomehaaaDoorCkw
namespace Go.Proofs.YtagnpedkomehaaaDoor
open Go.RowKit
set_option linter.unusedVariables false
set_option linter.unusedSimpArgs false

/-- many blocks laid one behind the other -/
def laidAll (w : World) : List Obj → World
  | [] => w
  | o :: os => laidAll (w.alloc o) os
theorem laid_out1 (os : List Obj) : ∀ (w : World), Out 0 0 w (laidAll w os) := by
  induction os with
  | nil => intro w; exact Out.refl 0 0 w
  | cons o os ih => intro w; exact ((Out.refl 0 0 w).alloc o).trans (ih (w.alloc o))
theorem laid_at : ∀ (os : List Obj) (w : World) (i : Nat) (o : Obj), os[i]? = some o → (laidAll w os).heap[w.heap.size + i]? = some o
  | [], w, i, o, h => by simp at h
  | x :: os, w, 0, o, h => by
    simp at h
    subst h
    exact (laid_out1 os (w.alloc x)).heap (heap_alloc_new w x) (.inr (Nat.zero_le _))
  | x :: os, w, i + 1, o, h => by
    have := laid_at os (w.alloc x) i o (by simpa using h)
    rw [size_alloc] at this
    rw [show w.heap.size + (i + 1) = w.heap.size + 1 + i by omega]
    exact this
theorem laid_bl {os : List Obj} {w V : World} {h : Nat} (hh : w.heap.size = h) (hV : laidAll w os = V) (i : Nat) {cs : Array Value} {T : TypeId} (ho : os[i]? = some (.cells cs T (0, 0))) : Bl V (h + i) cs T := by
  subst hh hV
  exact laid_at os w i _ ho
/-- some functions that lie in a row, their code in blocks of its own -/
theorem fn_row {w : World} {g : Nat} {cs : Array Value} {fs : List (Int × Int × Int × List (Int × Int))} (h : Bl w g cs 36) (hc : ∀ (j : Nat) f, fs[j]? = some f → ∃ q, cs[j * 4]? = some (.int .i64 f.1) ∧ cs[j * 4 + 1]? = some (.int .i64 f.2.1) ∧ cs[j * 4 + 2]? = some (.int .i64 f.2.2.1) ∧ cs[j * 4 + 3]? = some (.slice (some ⟨q, 0, none⟩) f.2.2.2.length f.2.2.2.length) ∧ Bl w q (ics f.2.2.2).toArray 49) : FnIn w w.heap.size (some ⟨g, 0, none⟩) fs := by
  refine .inr ⟨g, 0, rfl, h.lt, fun j f hj => ?_⟩
  obtain ⟨q, h0, h1, h2, h3, h4⟩ := hc j f hj
  rw [Nat.zero_add]
  exact ⟨some ⟨q, 0, none⟩, _, h.cell h0, h.cell h1, h.cell h2, h.cell h3, in_new h4⟩
theorem mi_all {fs : List (Int × Int × Int × List (Int × Int))} (h : ∀ f ∈ fs, ∀ x ∈ f.2.2.2, (-1000 ≤ x.1 ∧ x.1 ≤ 1000) ∧ -10000000 ≤ x.2 ∧ x.2 ≤ 10000000) : ∀ f ∈ fs, MI f.2.2.2 := fun f hf x hx => by
  have := h f hf x hx
  omega
theorem or_0 (z : Int) (hz : 5 ≤ z ∧ z ≤ 104) : ckV (0, [], [(1, 0, 0, [(1, 0), (21, 0)]), (0, 0, 0, [(23, 0)])]) = .inl (62, 0, 0) := by
  have : ¬ okP (0, [], [(1, 0, 0, [(1, 0), (21, 0)]), (0, 0, 0, [(23, 0)])]) := fun h => by
    have := (h.2.2.2.2 (0, 0, 0, [(23, 0)]) (by simp)).2.2.2.2 (23, 0) (by simp)
    exact this.1 (by unfold opS; simp)
  unfold ckV
  rw [if_neg (by rw [(wr_form this).1]; decide)]
theorem or_1 (z : Int) (hz : 5 ≤ z ∧ z ≤ 104) : ckV (0, [], [(0, 1, 1, [(3, z), (21, 0)]), (0, 0, 0, [(1, 0), (21, 0)])]) = .inl (70, 0, 0) := by
  have hz4 : ¬ z ≤ 4 := by omega
  have ho : okP (0, [], [(0, 1, 1, [(3, z), (21, 0)]), (0, 0, 0, [(1, 0), (21, 0)])]) := by
    refine ⟨by simp, by simp, (by intro t ht; cases ht), by simp, ?_⟩
    intro f hf
    simp at hf
    rcases hf with rfl | rfl
    all_goals
      refine ⟨by simp, by simp, by simp, by simp, ?_⟩
      intro y hy
      simp at hy
      first | (rcases hy with rfl | rfl | rfl | rfl | rfl | rfl) | (rcases hy with rfl | rfl | rfl | rfl | rfl) | (rcases hy with rfl | rfl | rfl | rfl) | (rcases hy with rfl | rfl | rfl) | (rcases hy with rfl | rfl) | subst hy
      all_goals (unfold okI opS; simp; try omega)
  have hl : (encP (0, [], [(0, 1, 1, [(3, z), (21, 0)]), (0, 0, 0, [(1, 0), (21, 0)])])).length ≤ 65536 := by
    have hn : z.toNat < 128 := by omega
    simp [encP, encF, encI, opB, opS, numB_lt, zig, hn]
  unfold ckV
  rw [if_pos (wr_ok ho hl).1]
  simp [chF, ptF, ptI, rtB, juB, hz4, gnF, wyA, wyF, wy0, stF, nxF, juF, onF, goB, ptV, tkV, tkS, insF, List.replicate, cpV]
theorem or_2 (z : Int) (hz : 5 ≤ z ∧ z ≤ 104) : ckV (0, [], [(0, 0, 0, [(11, 0), (21, 0)]), (0, 0, 0, [(3, z), (21, 0)])]) = .inl (72, 1, 0) := by
  have hz4 : ¬ z ≤ 4 := by omega
  have ho : okP (0, [], [(0, 0, 0, [(11, 0), (21, 0)]), (0, 0, 0, [(3, z), (21, 0)])]) := by
    refine ⟨by simp, by simp, (by intro t ht; cases ht), by simp, ?_⟩
    intro f hf
    simp at hf
    rcases hf with rfl | rfl
    all_goals
      refine ⟨by simp, by simp, by simp, by simp, ?_⟩
      intro y hy
      simp at hy
      first | (rcases hy with rfl | rfl | rfl | rfl | rfl | rfl) | (rcases hy with rfl | rfl | rfl | rfl | rfl) | (rcases hy with rfl | rfl | rfl | rfl) | (rcases hy with rfl | rfl | rfl) | (rcases hy with rfl | rfl) | subst hy
      all_goals (unfold okI opS; simp; try omega)
  have hl : (encP (0, [], [(0, 0, 0, [(11, 0), (21, 0)]), (0, 0, 0, [(3, z), (21, 0)])])).length ≤ 65536 := by
    have hn : z.toNat < 128 := by omega
    simp [encP, encF, encI, opB, opS, numB_lt, zig, hn]
  unfold ckV
  rw [if_pos (wr_ok ho hl).1]
  simp [chF, ptF, ptI, rtB, juB, hz4, gnF, wyA, wyF, wy0, stF, nxF, juF, onF, goB, ptV, tkV, tkS, insF, List.replicate, cpV]
theorem or_3 (z : Int) (hz : 5 ≤ z ∧ z ≤ 104) : ckV (0, [], [(0, 0, 0, [(3, z), (21, 0)]), (2, 1, 0, [(1, 0), (21, 0)])]) = .inl (72, 0, 0) := by
  have hz4 : ¬ z ≤ 4 := by omega
  have ho : okP (0, [], [(0, 0, 0, [(3, z), (21, 0)]), (2, 1, 0, [(1, 0), (21, 0)])]) := by
    refine ⟨by simp, by simp, (by intro t ht; cases ht), by simp, ?_⟩
    intro f hf
    simp at hf
    rcases hf with rfl | rfl
    all_goals
      refine ⟨by simp, by simp, by simp, by simp, ?_⟩
      intro y hy
      simp at hy
      first | (rcases hy with rfl | rfl | rfl | rfl | rfl | rfl) | (rcases hy with rfl | rfl | rfl | rfl | rfl) | (rcases hy with rfl | rfl | rfl | rfl) | (rcases hy with rfl | rfl | rfl) | (rcases hy with rfl | rfl) | subst hy
      all_goals (unfold okI opS; simp; try omega)
  have hl : (encP (0, [], [(0, 0, 0, [(3, z), (21, 0)]), (2, 1, 0, [(1, 0), (21, 0)])])).length ≤ 65536 := by
    have hn : z.toNat < 128 := by omega
    simp [encP, encF, encI, opB, opS, numB_lt, zig, hn]
  unfold ckV
  rw [if_pos (wr_ok ho hl).1]
  simp [chF, ptF, ptI, rtB, juB, hz4, gnF, wyA, wyF, wy0, stF, nxF, juF, onF, goB, ptV, tkV, tkS, insF, List.replicate, cpV]
theorem or_4 (z : Int) (hz : 5 ≤ z ∧ z ≤ 104) : ckV (0, [], [(0, 0, 0, [(1, 0), (21, 0)]), (2, 1, 0, [(3, z), (21, 0)])]) = .inl (71, 1, 0) := by
  have hz4 : ¬ z ≤ 4 := by omega
  have ho : okP (0, [], [(0, 0, 0, [(1, 0), (21, 0)]), (2, 1, 0, [(3, z), (21, 0)])]) := by
    refine ⟨by simp, by simp, (by intro t ht; cases ht), by simp, ?_⟩
    intro f hf
    simp at hf
    rcases hf with rfl | rfl
    all_goals
      refine ⟨by simp, by simp, by simp, by simp, ?_⟩
      intro y hy
      simp at hy
      first | (rcases hy with rfl | rfl | rfl | rfl | rfl | rfl) | (rcases hy with rfl | rfl | rfl | rfl | rfl) | (rcases hy with rfl | rfl | rfl | rfl) | (rcases hy with rfl | rfl | rfl) | (rcases hy with rfl | rfl) | subst hy
      all_goals (unfold okI opS; simp; try omega)
  have hl : (encP (0, [], [(0, 0, 0, [(1, 0), (21, 0)]), (2, 1, 0, [(3, z), (21, 0)])])).length ≤ 65536 := by
    have hn : z.toNat < 128 := by omega
    simp [encP, encF, encI, opB, opS, numB_lt, zig, hn]
  unfold ckV
  rw [if_pos (wr_ok ho hl).1]
  simp [chF, ptF, ptI, rtB, juB, hz4, gnF, wyA, wyF, wy0, stF, nxF, juF, onF, goB, ptV, tkV, tkS, insF, List.replicate, cpV]
theorem or_5 (z : Int) (hz : 5 ≤ z ∧ z ≤ 104) : ckV (0, [], [(0, 0, 0, [(1, 0), (21, 0)]), (0, 0, 0, [(11, 0), (21, 0)]), (0, 0, 0, [(14, 1)])]) = .inl (73, 2, 0) := by
  have hz4 : ¬ z ≤ 4 := by omega
  have ho : okP (0, [], [(0, 0, 0, [(1, 0), (21, 0)]), (0, 0, 0, [(11, 0), (21, 0)]), (0, 0, 0, [(14, 1)])]) := by
    refine ⟨by simp, by simp, (by intro t ht; cases ht), by simp, ?_⟩
    intro f hf
    simp at hf
    rcases hf with rfl | rfl | rfl
    all_goals
      refine ⟨by simp, by simp, by simp, by simp, ?_⟩
      intro y hy
      simp at hy
      first | (rcases hy with rfl | rfl | rfl | rfl | rfl | rfl) | (rcases hy with rfl | rfl | rfl | rfl | rfl) | (rcases hy with rfl | rfl | rfl | rfl) | (rcases hy with rfl | rfl | rfl) | (rcases hy with rfl | rfl) | subst hy
      all_goals (unfold okI opS; simp; try omega)
  have hl : (encP (0, [], [(0, 0, 0, [(1, 0), (21, 0)]), (0, 0, 0, [(11, 0), (21, 0)]), (0, 0, 0, [(14, 1)])])).length ≤ 65536 := by
    have hn : z.toNat < 128 := by omega
    simp [encP, encF, encI, opB, opS, numB_lt, zig, hn]
  unfold ckV
  rw [if_pos (wr_ok ho hl).1]
  simp [chF, ptF, ptI, rtB, juB, hz4, gnF, wyA, wyF, wy0, stF, nxF, juF, onF, goB, ptV, tkV, tkS, insF, List.replicate, cpV]
theorem or_6 (z : Int) (hz : 5 ≤ z ∧ z ≤ 104) : ckV (0, [], [(0, 0, 0, [(1, 0), (21, 0)]), (0, 0, 0, [(14, 1), (3, 9)])]) = .inl (72, 1, 1) := by
  have hz4 : ¬ z ≤ 4 := by omega
  have ho : okP (0, [], [(0, 0, 0, [(1, 0), (21, 0)]), (0, 0, 0, [(14, 1), (3, 9)])]) := by
    refine ⟨by simp, by simp, (by intro t ht; cases ht), by simp, ?_⟩
    intro f hf
    simp at hf
    rcases hf with rfl | rfl
    all_goals
      refine ⟨by simp, by simp, by simp, by simp, ?_⟩
      intro y hy
      simp at hy
      first | (rcases hy with rfl | rfl | rfl | rfl | rfl | rfl) | (rcases hy with rfl | rfl | rfl | rfl | rfl) | (rcases hy with rfl | rfl | rfl | rfl) | (rcases hy with rfl | rfl | rfl) | (rcases hy with rfl | rfl) | subst hy
      all_goals (unfold okI opS; simp; try omega)
  have hl : (encP (0, [], [(0, 0, 0, [(1, 0), (21, 0)]), (0, 0, 0, [(14, 1), (3, 9)])])).length ≤ 65536 := by
    have hn : z.toNat < 128 := by omega
    simp [encP, encF, encI, opB, opS, numB_lt, zig, hn]
  unfold ckV
  rw [if_pos (wr_ok ho hl).1]
  simp [chF, ptF, ptI, rtB, juB, hz4, gnF, wyA, wyF, wy0, stF, nxF, juF, onF, goB, ptV, tkV, tkS, insF, List.replicate, cpV]
theorem or_7 (z : Int) (hz : 5 ≤ z ∧ z ≤ 104) : ckV (0, [], [(0, 0, 0, [(1, 0), (21, 0)]), (0, 0, 0, [(1, 0), (11, 0), (11, 0), (1, 0)])]) = .inl (74, 1, 2) := by
  have hz4 : ¬ z ≤ 4 := by omega
  have ho : okP (0, [], [(0, 0, 0, [(1, 0), (21, 0)]), (0, 0, 0, [(1, 0), (11, 0), (11, 0), (1, 0)])]) := by
    refine ⟨by simp, by simp, (by intro t ht; cases ht), by simp, ?_⟩
    intro f hf
    simp at hf
    rcases hf with rfl | rfl
    all_goals
      refine ⟨by simp, by simp, by simp, by simp, ?_⟩
      intro y hy
      simp at hy
      first | (rcases hy with rfl | rfl | rfl | rfl | rfl | rfl) | (rcases hy with rfl | rfl | rfl | rfl | rfl) | (rcases hy with rfl | rfl | rfl | rfl) | (rcases hy with rfl | rfl | rfl) | (rcases hy with rfl | rfl) | subst hy
      all_goals (unfold okI opS; simp; try omega)
  have hl : (encP (0, [], [(0, 0, 0, [(1, 0), (21, 0)]), (0, 0, 0, [(1, 0), (11, 0), (11, 0), (1, 0)])])).length ≤ 65536 := by
    have hn : z.toNat < 128 := by omega
    simp [encP, encF, encI, opB, opS, numB_lt, zig, hn]
  unfold ckV
  rw [if_pos (wr_ok ho hl).1]
  simp [chF, ptF, ptI, rtB, juB, hz4, gnF, wyA, wyF, wy0, stF, nxF, juF, onF, goB, ptV, tkV, tkS, insF, List.replicate, cpV]
theorem or_8 (z : Int) (hz : 5 ≤ z ∧ z ≤ 104) : ckV (0, [], [(0, 0, 0, [(1, 0), (21, 0)]), (0, 0, 0, [(1, 0), (15, 4), (1, 0), (21, 0), (11, 0), (14, 0)])]) = .inl (74, 1, 4) := by
  have hz4 : ¬ z ≤ 4 := by omega
  have ho : okP (0, [], [(0, 0, 0, [(1, 0), (21, 0)]), (0, 0, 0, [(1, 0), (15, 4), (1, 0), (21, 0), (11, 0), (14, 0)])]) := by
    refine ⟨by simp, by simp, (by intro t ht; cases ht), by simp, ?_⟩
    intro f hf
    simp at hf
    rcases hf with rfl | rfl
    all_goals
      refine ⟨by simp, by simp, by simp, by simp, ?_⟩
      intro y hy
      simp at hy
      first | (rcases hy with rfl | rfl | rfl | rfl | rfl | rfl) | (rcases hy with rfl | rfl | rfl | rfl | rfl) | (rcases hy with rfl | rfl | rfl | rfl) | (rcases hy with rfl | rfl | rfl) | (rcases hy with rfl | rfl) | subst hy
      all_goals (unfold okI opS; simp; try omega)
  have hl : (encP (0, [], [(0, 0, 0, [(1, 0), (21, 0)]), (0, 0, 0, [(1, 0), (15, 4), (1, 0), (21, 0), (11, 0), (14, 0)])])).length ≤ 65536 := by
    have hn : z.toNat < 128 := by omega
    simp [encP, encF, encI, opB, opS, numB_lt, zig, hn]
  unfold ckV
  rw [if_pos (wr_ok ho hl).1]
  simp [chF, ptF, ptI, rtB, juB, hz4, gnF, wyA, wyF, wy0, stF, nxF, juF, onF, goB, ptV, tkV, tkS, insF, List.replicate, cpV]
end Go.Proofs.YtagnpedkomehaaaDoor
