import Derived.Test.YtkghabmgofgclaaDoorQbe
namespace Go.Proofs.YtkghabmgofgclaaDoor
open Go.ChangeShapes Go.WideShapes Go.ChangeAt Go.RowKit Go.Deep
set_option linter.unusedVariables false
set_option linter.unusedSimpArgs false

theorem bytes_prog : Tryd.prog.bytesOf 25 = 56 := by kernel_rfl
theorem len3 {l : List Value} (h : l.length = 3) : ∃ a b c, l = [a, b, c] := by
  match l, h with
  | [a, b, c], _ => exact ⟨a, b, c, rfl⟩
/-- programs below a block -/
def PgIn (w : World) (B : Nat) (p : Option Addr) (ps : List (Int × List (List Int) × List (Int × Int × Int × List (Int × Int)))) : Prop :=
  ps = [] ∨ ∃ g off, p = some ⟨g, off, none⟩ ∧ g < B ∧ ∀ (j : Nat) P, ps[j]? = some P → ∃ ta tc fa fc, w.cell? ⟨g, off + j * 3, none⟩ = some (.int .i64 P.1) ∧ w.cell? ⟨g, off + j * 3 + 1, none⟩ = some (.slice ta P.2.1.length tc) ∧ w.cell? ⟨g, off + j * 3 + 2, none⟩ = some (.slice fa P.2.2.length fc) ∧ TxIn w B ta P.2.1 ∧ FnIn w B fa P.2.2
theorem PgIn.kept {w w' : World} {B C : Nat} {p : Option Addr} {ps : List (Int × List (List Int) × List (Int × Int × Int × List (Int × Int)))} (h : PgIn w B p ps) (o : Lo C w w') (hx : B ≤ C) : PgIn w' B p ps := by
  rcases h with h | ⟨g, off, h1, h2, h3⟩
  · exact .inl h
  · refine .inr ⟨g, off, h1, h2, fun j t hj => ?_⟩
    obtain ⟨ta, tc, fa, fc, c1, c2, c3, c4, c5⟩ := h3 j t hj
    exact ⟨ta, tc, fa, fc, o.cell c1 (by omega), o.cell c2 (by omega), o.cell c3 (by omega), c4.kept o hx, c5.kept o hx⟩
/-- a program of arguments is one that can be looked at -/
def PgOk (P : Int × List (List Int) × List (Int × Int × Int × List (Int × Int))) : Prop := (∀ t ∈ P.2.1, t.length ≤ 140737488351232) ∧ P.2.1.length ≤ 140737488351232 ∧ (∀ f ∈ P.2.2, MI f.2.2.2 ∧ f.2.2.2.length ≤ 140737488351232) ∧ P.2.2.length ≤ 140737488351232
theorem open_progs {H : Type} {enc : TypeId × Value → H} {W : World} {fuel : Nat} {cs : List Value} {x : DataW H × List MemPlace} (h : DataW.trod enc Tryd.prog W 0 (fun _ => true) true fuel 29 cs = some x) (hw : ∀ n ∈ x.1.weights Tryd.prog 29, n ≤ reachBytes) :
    ∃ (p : Option Addr) (ps : List (Int × List (List Int) × List (Int × Int × Int × List (Int × Int)))) (cap : Nat), cs = [.slice p ps.length cap] ∧ PgIn W W.heap.size p ps ∧ (∀ P ∈ ps, PgOk P) ∧ ps.length ≤ 140737488351232 := by
  rcases open_slice Tryd.underlying29 h with h0 | ⟨a, len, cap, m, n, D, Pl, rfl, hb, hl, hm, hmm, rfl, hx⟩
  · exact ⟨none, [], 0, h0.1, .inl rfl, (fun t ht => by cases ht), by simp⟩
  simp only [if_true] at hmm
  subst hmm
  have each : ∀ i, i < len → ∃ q : (Int × List (List Int) × List (Int × Int × Int × List (Int × Int))) × (Option Addr × Nat) × Option Addr × Nat, W.cell? (a.add (i * 3)) = some (.int .i64 q.1.1) ∧ W.cell? (a.add (i * 3 + 1)) = some (.slice q.2.1.1 q.1.2.1.length q.2.1.2) ∧ W.cell? (a.add (i * 3 + 2)) = some (.slice q.2.2.1 q.1.2.2.length q.2.2.2) ∧ TxIn W W.heap.size q.2.1.1 q.1.2.1 ∧ FnIn W W.heap.size q.2.2.1 q.1.2.2 ∧ PgOk q.1 := by
    intro i hi
    obtain ⟨cs', h1, h2⟩ := hx i (by omega)
    rw [cells_prog] at h1
    obtain ⟨_, hlen, hcell⟩ := World.cells?_some h1
    obtain ⟨y0, y1, y2, n', hxy, hl3, g0, g1, g2⟩ := trod_struct3 Tryd.underlying25 h2
    obtain ⟨v0, v1, v2, rfl⟩ := len3 hlen
    · skip
      simp [cells_int, cells_texts, cells_funcs] at g0 g1 g2
      have wk : ∀ k, k ∈ (D i).weights Tryd.prog 25 → k ≤ reachBytes := fun k hk => hw k (by
        simp only [DataW.weights, Tryd.underlying29, List.mem_cons, List.mem_append]
        exact .inr (.inl (weightsAll_in (d := D i) hk (List.mem_map.2 ⟨i, List.mem_range.2 hi, rfl⟩))))
      have hD : D i = _ := congrArg Prod.fst hxy
      rw [hD] at wk
      obtain ⟨z0, e0, _, w0⟩ := DataW.trod_int Tryd.underlying3 g0
      obtain ⟨p1, ts, c1, e1, k1, k2, k3⟩ := open_texts g1 (fun k hk => wk k (by simp [DataW.weights, DataW.weightsEach, Tryd.underlying25, hk]))
      obtain ⟨p2, fs, c2, e2, m1, m2, m3⟩ := open_funcs g2 (fun k hk => wk k (by simp [DataW.weights, DataW.weightsEach, Tryd.underlying25, hk]))
      simp only [List.cons.injEq, and_true] at e0 e1 e2
      have f0 := hcell 0 (by omega)
      have f1 := hcell 1 (by omega)
      have f2 := hcell 2 (by omega)
      rw [add_add] at f0 f1 f2
      exact ⟨((z0, ts, fs), (p1, c1), p2, c2), by simpa [e0] using f0, by simpa [e1] using f1, by simpa [e2] using f2, k1, m1, k2, k3, m2, m3⟩
  obtain ⟨q, hq⟩ := choose_lt each
  have hlen : ((List.range len).map fun i => (q i).1).length = len := by simp
  have hle : len ≤ 140737488351232 := by
    have := hw ((len + (m - len)) * 56) (by simp [DataW.weights, Tryd.underlying29, bytes_prog])
    unfold reachBytes at this
    omega
  refine ⟨some a, (List.range len).map fun i => (q i).1, _, by rw [hlen], ?_, fun t ht => ?_, by rw [hlen]; exact hle⟩
  rotate_left
  · obtain ⟨i, hi, rfl⟩ := List.mem_map.1 ht
    exact (hq i (by simpa using hi)).2.2.2.2.2
  by_cases h0 : len = 0
  · left; subst h0; rfl
  · right
    obtain ⟨b, off, spot⟩ := a
    have hspot : spot = none := by
      have := (hq 0 (by omega)).1
      simpa [Addr.add] using World.cell?_spot this
    subst hspot
    refine ⟨b, off, rfl, ?_, fun j t hj => ?_⟩
    · have := cell_in (hq 0 (by omega)).1
      simpa [Addr.add] using this
    · have hj' : j < len := by have := (List.getElem?_eq_some_iff.1 hj).1; simpa using this
      have e : t = (q j).1 := by rw [List.getElem?_map, List.getElem?_range hj'] at hj; simpa using hj.symm
      subst e
      obtain ⟨k1, k2, k3, k4, k5, _⟩ := hq j hj'
      rw [add_plain] at k1 k2 k3
      exact ⟨(q j).2.1.1, (q j).2.1.2, (q j).2.2.1, (q j).2.2.2, k1, by rw [Nat.add_assoc]; exact k2, by rw [Nat.add_assoc]; exact k3, k4, k5⟩
end Go.Proofs.YtkghabmgofgclaaDoor
