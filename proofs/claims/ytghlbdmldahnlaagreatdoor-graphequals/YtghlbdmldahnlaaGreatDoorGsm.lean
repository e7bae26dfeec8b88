/- the argument opened: a graph -/
import Derived.Test.YtghlbdmldahnlaaGreatDoorGsl
import Derived.SizedLaws
import Derived.Deep.Slices
import Derived.Deep.Strs
import Derived.Lib.SmallJoins
namespace Go.Proofs.YtghlbdmldahnlaaGreatDoor
open Go.ChangeShapes Go.WideShapes Go.ChangeAt Go.RowKit Go.Deep
set_option linter.unusedVariables false
set_option linter.unusedSimpArgs false

theorem cells_int : Tryz.prog.cellsOf 3 = 1 := by kernel_rfl
theorem cells_ints : Tryz.prog.cellsOf 34 = 1 := by kernel_rfl
theorem cells_vals : Tryz.prog.cellsOf 23 = 1 := by kernel_rfl
theorem cells_ents : Tryz.prog.cellsOf 35 = 1 := by kernel_rfl
theorem cells_nodes : Tryz.prog.cellsOf 22 = 1 := by kernel_rfl
theorem cells_val : Tryz.prog.cellsOf 33 = 2 := by kernel_rfl
theorem cells_ent : Tryz.prog.cellsOf 47 = 4 := by kernel_rfl
theorem cells_node : Tryz.prog.cellsOf 37 = 5 := by kernel_rfl
theorem cells_graph : Tryz.prog.cellsOf 25 = 2 := by kernel_rfl
theorem bytes_int : Tryz.prog.bytesOf 3 = 8 := by kernel_rfl
theorem bytes_val : Tryz.prog.bytesOf 33 = 16 := by kernel_rfl
theorem bytes_ent : Tryz.prog.bytesOf 47 = 32 := by kernel_rfl
theorem bytes_node : Tryz.prog.bytesOf 37 = 88 := by kernel_rfl
theorem cell_in {w : World} {a : Addr} {v : Value} (h : w.cell? a = some v) : a.block < w.heap.size := by
  by_cases hb : a.block < w.heap.size
  · exact hb
  · have : w.heap[a.block]? = none := by simp; omega
    simp [World.cell?, this] at h
theorem l2 {l : List Value} (h : l.length = 2) : ∃ a b, l = [a, b] := by
  match l, h with
  | [a, b], _ => exact ⟨a, b, rfl⟩
theorem l4 {l : List Value} (h : l.length = 4) : ∃ a b c d, l = [a, b, c, d] := by
  match l, h with
  | [a, b, c, d], _ => exact ⟨a, b, c, d, rfl⟩
theorem l5 {l : List Value} (h : l.length = 5) : ∃ a b c d e, l = [a, b, c, d, e] := by
  match l, h with
  | [a, b, c, d, e], _ => exact ⟨a, b, c, d, e, rfl⟩
theorem size2 {cs : Array Value} (h : cs.toList.length = 2) : ∃ a b, cs = #[a, b] := by
  obtain ⟨l⟩ := cs
  match l, h with
  | [a, b], _ => exact ⟨a, b, rfl⟩
theorem trod_struct5 {H : Type} {enc : TypeId × Value → H} {P : Program} {w : World} {base : Nat} {spare : Nat → Bool} {held : Bool} {t : TypeId} {f0 f1 f2 f3 f4 : Field} {fuel : Nat} {cs : List Value} {x : DataW H × List MemPlace} (ht : P.underlying t = some (.struct #[f0, f1, f2, f3, f4])) (h : DataW.trod enc P w base spare held fuel t cs = some x) :
    ∃ y0 y1 y2 y3 y4 n, x.1 = .agg [y0.1, y1.1, y2.1, y3.1, y4.1] ∧ DataW.trod enc P w base spare held n f0.type ((cs.drop f0.offset).take (P.cellsOf f0.type)) = some y0 ∧
      DataW.trod enc P w base spare held n f1.type ((cs.drop f1.offset).take (P.cellsOf f1.type)) = some y1 ∧ DataW.trod enc P w base spare held n f2.type ((cs.drop f2.offset).take (P.cellsOf f2.type)) = some y2 ∧
      DataW.trod enc P w base spare held n f3.type ((cs.drop f3.offset).take (P.cellsOf f3.type)) = some y3 ∧ DataW.trod enc P w base spare held n f4.type ((cs.drop f4.offset).take (P.cellsOf f4.type)) = some y4 := by
  obtain ⟨xs, n, _, rfl, hl, hlen, hf⟩ := DataW.trod_struct ht h
  match xs, hlen with
  | [y0, y1, y2, y3, y4], _ => exact ⟨y0, y1, y2, y3, y4, n, rfl, by simpa using hf 0 f0 rfl, by simpa using hf 1 f1 rfl, by simpa using hf 2 f2 rfl, by simpa using hf 3 f3 rfl, by simpa using hf 4 f4 rfl⟩
theorem weightsAll_in {H : Type} {P : Program} {e : TypeId} {d : DataW H} {n : Nat} (hn : n ∈ d.weights P e) : ∀ {l : List (DataW H)}, d ∈ l → n ∈ DataW.weightsAll P e l
  | [], h => by cases h
  | x :: r, h => by
    simp only [DataW.weightsAll, List.mem_append]
    rcases List.mem_cons.1 h with h | h
    · subst h; exact .inl hn
    · exact .inr (weightsAll_in hn h)
/-- numbers one behind the other -/
theorem flat_is {W : World} {a : Addr} {m : Nat} (h : ∀ j, j < m → ∃ x, W.cell? (a.add j) = some (.int .i64 x)) : ∃ l : List Int, l.length = m ∧ IsIn W W.heap.size (some a) l := by
  obtain ⟨l, h1, h2⟩ := list_of m h
  refine ⟨l, h1, ?_⟩
  by_cases h0 : m = 0
  · left
    exact List.eq_nil_of_length_eq_zero (by omega)
  · right
    obtain ⟨b, off, spot⟩ := a
    obtain ⟨x, hx⟩ := h 0 (by omega)
    have hspot : spot = none := by simpa [Addr.add] using World.cell?_spot hx
    subst hspot
    refine ⟨b, off, rfl, ?_, fun j y hj => ?_⟩
    · have := cell_in hx
      simpa [Addr.add] using this
    · have := h2 j y hj
      rw [add_plain] at this
      exact this
theorem open_ints {H : Type} {enc : TypeId × Value → H} {W : World} {fuel : Nat} {cs : List Value} {x : DataW H × List MemPlace} (h : DataW.trod enc Tryz.prog W 0 (fun _ => true) true fuel 34 cs = some x) (hw : ∀ n ∈ x.1.weights Tryz.prog 34, n ≤ reachBytes) :
    ∃ (p : Option Addr) (n : Nat) (L : List Int) (cap : Nat), cs = [.slice p n cap] ∧ L.length = n * 1 ∧ IsIn W W.heap.size p L ∧ L.length ≤ 140737488351232 := by
  rcases open_slice1 Tryz.underlying34 cells_int h with h0 | ⟨a, len, cap, m, n, V, D, Pl, rfl, hb, hl, hm, hmm, rfl, hx⟩
  · exact ⟨none, 0, [], 0, h0.1, rfl, .inl rfl, Nat.zero_le _⟩
  simp only [if_true] at hmm
  subst hmm
  have each : ∀ j, j < len * 1 → ∃ x, W.cell? (a.add j) = some (.int .i64 x) := by
    intro i hi
    obtain ⟨h1, h2⟩ := hx i (by omega)
    obtain ⟨z, e, _, hw⟩ := DataW.trod_int Tryz.underlying3 h2
    simp only [List.cons.injEq, and_true] at e
    exact ⟨z, by rw [h1, e]⟩
  obtain ⟨l, hl1, hl2⟩ := flat_is each
  have hle : len ≤ 140737488351232 := by
    have := hw ((len + (m - len)) * 8) (by simp [DataW.weights, Tryz.underlying34, bytes_int])
    unfold reachBytes at this
    omega
  exact ⟨some a, len, l, _, rfl, hl1, hl2, by omega⟩
theorem trod_val {H : Type} {enc : TypeId × Value → H} {W : World} {sp : Nat → Bool} {fuel : Nat} {v0 v1 : Value} {x : DataW H × List MemPlace} (h : DataW.trod enc Tryz.prog W 0 sp true fuel 33 [v0, v1] = some x) : ∃ z0 z1 : Int, v0 = .int .i64 z0 ∧ v1 = .int .i64 z1 := by
  obtain ⟨y0, y1, n', hxy, hl2, g0, g1⟩ := trod_struct2 Tryz.underlying33 h
  simp [cells_int] at g0 g1
  obtain ⟨z0, e0, _, w0⟩ := DataW.trod_int Tryz.underlying3 g0
  obtain ⟨z1, e1, _, w1⟩ := DataW.trod_int Tryz.underlying3 g1
  simp only [List.cons.injEq, and_true] at e0 e1
  exact ⟨z0, z1, e0, e1⟩
theorem trod_ent {H : Type} {enc : TypeId × Value → H} {W : World} {sp : Nat → Bool} {fuel : Nat} {v0 v1 v2 v3 : Value} {x : DataW H × List MemPlace} (h : DataW.trod enc Tryz.prog W 0 sp true fuel 47 [v0, v1, v2, v3] = some x) : ∃ z0 z1 z2 z3 : Int, v0 = .int .i64 z0 ∧ v1 = .int .i64 z1 ∧ v2 = .int .i64 z2 ∧ v3 = .int .i64 z3 := by
  obtain ⟨y0, y1, n', hxy, hl2, g0, g1⟩ := trod_struct2 Tryz.underlying47 h
  simp [cells_val] at g0 g1
  obtain ⟨z0, z1, e0, e1⟩ := trod_val g0
  obtain ⟨z2, z3, e2, e3⟩ := trod_val g1
  exact ⟨z0, z1, z2, z3, e0, e1, e2, e3⟩
theorem open_vals {H : Type} {enc : TypeId × Value → H} {W : World} {fuel : Nat} {cs : List Value} {x : DataW H × List MemPlace} (h : DataW.trod enc Tryz.prog W 0 (fun _ => true) true fuel 23 cs = some x) (hw : ∀ n ∈ x.1.weights Tryz.prog 23, n ≤ reachBytes) :
    ∃ (p : Option Addr) (n : Nat) (L : List Int) (cap : Nat), cs = [.slice p n cap] ∧ L.length = n * 2 ∧ IsIn W W.heap.size p L ∧ L.length ≤ 140737488351232 := by
  rcases open_slice Tryz.underlying23 h with h0 | ⟨a, len, cap, m, n, D, Pl, rfl, hb, hl, hm, hmm, rfl, hx⟩
  · exact ⟨none, 0, [], 0, h0.1, rfl, .inl rfl, Nat.zero_le _⟩
  simp only [if_true] at hmm
  subst hmm
  have each : ∀ j, j < len * 2 → ∃ x, W.cell? (a.add j) = some (.int .i64 x) := by
    intro j hj
    obtain ⟨i, r, hi, hr, rfl⟩ : ∃ i r, i < len ∧ r < 2 ∧ j = i * 2 + r := ⟨j / 2, j % 2, by omega, by omega, by omega⟩
    obtain ⟨cs', h1, h2⟩ := hx i (by omega)
    rw [cells_val] at h1
    obtain ⟨_, hlen, hcell⟩ := World.cells?_some h1
    obtain ⟨v0, v1, rfl⟩ := l2 hlen
    obtain ⟨z0, z1, e0, e1⟩ := trod_val h2
    have f := hcell r (by omega)
    rw [add_add] at f
    match r, hr with
    | 0, _ => exact ⟨z0, by simpa [e0] using f⟩
    | 1, _ => exact ⟨z1, by simpa [e1] using f⟩
  obtain ⟨l, hl1, hl2⟩ := flat_is each
  have hle : len * 2 ≤ 140737488351232 := by
    have := hw ((len + (m - len)) * 16) (by simp [DataW.weights, Tryz.underlying23, bytes_val])
    unfold reachBytes at this
    omega
  exact ⟨some a, len, l, _, rfl, hl1, hl2, by omega⟩
theorem open_ents {H : Type} {enc : TypeId × Value → H} {W : World} {fuel : Nat} {cs : List Value} {x : DataW H × List MemPlace} (h : DataW.trod enc Tryz.prog W 0 (fun _ => true) true fuel 35 cs = some x) (hw : ∀ n ∈ x.1.weights Tryz.prog 35, n ≤ reachBytes) :
    ∃ (p : Option Addr) (n : Nat) (L : List Int) (cap : Nat), cs = [.slice p n cap] ∧ L.length = n * 4 ∧ IsIn W W.heap.size p L ∧ L.length ≤ 140737488351232 := by
  rcases open_slice Tryz.underlying35 h with h0 | ⟨a, len, cap, m, n, D, Pl, rfl, hb, hl, hm, hmm, rfl, hx⟩
  · exact ⟨none, 0, [], 0, h0.1, rfl, .inl rfl, Nat.zero_le _⟩
  simp only [if_true] at hmm
  subst hmm
  have each : ∀ j, j < len * 4 → ∃ x, W.cell? (a.add j) = some (.int .i64 x) := by
    intro j hj
    obtain ⟨i, r, hi, hr, rfl⟩ : ∃ i r, i < len ∧ r < 4 ∧ j = i * 4 + r := ⟨j / 4, j % 4, by omega, by omega, by omega⟩
    obtain ⟨cs', h1, h2⟩ := hx i (by omega)
    rw [cells_ent] at h1
    obtain ⟨_, hlen, hcell⟩ := World.cells?_some h1
    obtain ⟨v0, v1, v2, v3, rfl⟩ := l4 hlen
    obtain ⟨z0, z1, z2, z3, e0, e1, e2, e3⟩ := trod_ent h2
    have f := hcell r (by omega)
    rw [add_add] at f
    match r, hr with
    | 0, _ => exact ⟨z0, by simpa [e0] using f⟩
    | 1, _ => exact ⟨z1, by simpa [e1] using f⟩
    | 2, _ => exact ⟨z2, by simpa [e2] using f⟩
    | 3, _ => exact ⟨z3, by simpa [e3] using f⟩
  obtain ⟨l, hl1, hl2⟩ := flat_is each
  have hle : len * 4 ≤ 140737488351232 := by
    have := hw ((len + (m - len)) * 32) (by simp [DataW.weights, Tryz.underlying35, bytes_ent])
    unfold reachBytes at this
    omega
  exact ⟨some a, len, l, _, rfl, hl1, hl2, by omega⟩
/-- a node read at an address -/
def NdA (W : World) (a : Addr) (i : Nat) (n : Int × Int × List Int × List Int × List Int) : Prop := ∃ pr nr cr pf nf cf pe ne ce, W.cell? (a.add (i * 5)) = some (.int .i64 n.1) ∧ W.cell? (a.add (i * 5 + 1)) = some (.int .i64 n.2.1) ∧ W.cell? (a.add (i * 5 + 2)) = some (.slice pr nr cr) ∧ W.cell? (a.add (i * 5 + 3)) = some (.slice pf nf cf) ∧ W.cell? (a.add (i * 5 + 4)) = some (.slice pe ne ce) ∧
  (n.2.2.1.length = nr * 1 ∧ n.2.2.2.1.length = nf * 2 ∧ n.2.2.2.2.length = ne * 4) ∧ (IsIn W W.heap.size pr n.2.2.1 ∧ IsIn W W.heap.size pf n.2.2.2.1 ∧ IsIn W W.heap.size pe n.2.2.2.2) ∧ n.2.2.1.length ≤ 140737488351232 ∧ n.2.2.2.1.length ≤ 140737488351232 ∧ n.2.2.2.2.length ≤ 140737488351232
theorem open_nodes {H : Type} {enc : TypeId × Value → H} {W : World} {fuel : Nat} {cs : List Value} {x : DataW H × List MemPlace} (h : DataW.trod enc Tryz.prog W 0 (fun _ => true) true fuel 22 cs = some x) (hw : ∀ n ∈ x.1.weights Tryz.prog 22, n ≤ reachBytes) :
    ∃ (p : Option Addr) (ns : List (Int × Int × List Int × List Int × List Int)) (cap : Nat), cs = [.slice p ns.length cap] ∧ NdIn W W.heap.size p ns ∧ ns.length ≤ 140737488351232 ∧ ∀ n ∈ ns, n.2.2.1.length ≤ 140737488351232 ∧ n.2.2.2.1.length ≤ 140737488351232 ∧ n.2.2.2.2.length ≤ 140737488351232 := by
  rcases open_slice Tryz.underlying22 h with h0 | ⟨a, len, cap, m, n, D, Pl, rfl, hb, hl, hm, hmm, rfl, hx⟩
  · exact ⟨none, [], 0, h0.1, .inl rfl, Nat.zero_le _, fun n hn => by cases hn⟩
  simp only [if_true] at hmm
  subst hmm
  have each : ∀ i, i < len → ∃ n : Int × Int × List Int × List Int × List Int, NdA W a i n := by
    intro i hi
    obtain ⟨cs', h1, h2⟩ := hx i (by omega)
    rw [cells_node] at h1
    obtain ⟨_, hlen, hcell⟩ := World.cells?_some h1
    obtain ⟨y0, y1, y2, y3, y4, n', hxy, g0, g1, g2, g3, g4⟩ := trod_struct5 Tryz.underlying37 h2
    obtain ⟨v0, v1, v2, v3, v4, rfl⟩ := l5 hlen
    simp [cells_int, cells_ints, cells_vals, cells_ents] at g0 g1 g2 g3 g4
    have hin : ∀ k, k ∈ (D i).weights Tryz.prog 37 → k ≤ reachBytes := fun k hk => hw k (by
      simp only [DataW.weights, Tryz.underlying22, List.mem_cons, List.mem_append]
      exact .inr (.inl (weightsAll_in (d := D i) hk (List.mem_map.2 ⟨i, List.mem_range.2 hi, rfl⟩))))
    have hD : D i = .agg [y0.1, y1.1, y2.1, y3.1, y4.1] := hxy
    rw [hD] at hin
    obtain ⟨z0, e0, _, w0⟩ := DataW.trod_int Tryz.underlying3 g0
    obtain ⟨z1, e1, _, w1⟩ := DataW.trod_int Tryz.underlying3 g1
    obtain ⟨p2, n2, l2', c2, e2, a2, b2, d2⟩ := open_ints g2 (fun k hk => hin k (by simp [DataW.weights, DataW.weightsEach, Tryz.underlying37, hk]))
    obtain ⟨p3, n3, l3', c3, e3, a3, b3, d3⟩ := open_vals g3 (fun k hk => hin k (by simp [DataW.weights, DataW.weightsEach, Tryz.underlying37, hk]))
    obtain ⟨p4, n4, l4', c4, e4, a4, b4, d4⟩ := open_ents g4 (fun k hk => hin k (by simp [DataW.weights, DataW.weightsEach, Tryz.underlying37, hk]))
    simp only [List.cons.injEq, and_true] at e0 e1 e2 e3 e4
    have f0 := hcell 0 (by omega)
    have f1 := hcell 1 (by omega)
    have f2 := hcell 2 (by omega)
    have f3 := hcell 3 (by omega)
    have f4 := hcell 4 (by omega)
    rw [add_add] at f0 f1 f2 f3 f4
    exact ⟨(z0, z1, l2', l3', l4'), p2, n2, c2, p3, n3, c3, p4, n4, c4, by simpa [e0] using f0, by simpa [e1] using f1, by simpa [e2] using f2, by simpa [e3] using f3, by simpa [e4] using f4, ⟨a2, a3, a4⟩, ⟨b2, b3, b4⟩, d2, d3, d4⟩
  obtain ⟨ns, n1, n2⟩ := list_of len each
  have hle : len ≤ 140737488351232 := by
    have := hw ((len + (m - len)) * 88) (by simp [DataW.weights, Tryz.underlying22, bytes_node])
    unfold reachBytes at this
    omega
  refine ⟨some a, ns, _, by rw [n1], ?_, by omega, fun n hn => ?_⟩
  rotate_left
  · obtain ⟨i, hi, e⟩ := List.getElem_of_mem hn
    obtain ⟨_, _, _, _, _, _, _, _, _, _, _, _, _, _, _, _, q⟩ := n2 i n (by rw [List.getElem?_eq_getElem hi, e])
    exact q
  by_cases h0 : len = 0
  · left; exact List.eq_nil_of_length_eq_zero (by omega)
  · right
    obtain ⟨b, off, spot⟩ := a
    obtain ⟨x0, _, _, _, _, _, _, _, _, _, hx0, -⟩ := each 0 (by omega)
    have hspot : spot = none := by simpa [Addr.add] using World.cell?_spot hx0
    subst hspot
    refine ⟨b, off, rfl, ?_, fun j n hj => ?_⟩
    · have := cell_in hx0
      simpa [Addr.add] using this
    · obtain ⟨pr, nr, cr, pf, nf, cf, pe, ne, ce, k0, k1, k2, k3, k4, ⟨q1, q2, q3⟩, ⟨q4, q5, q6⟩, -⟩ := n2 j n hj
      rw [add_plain] at k0 k1 k2 k3 k4
      exact ⟨pr, nr, cr, pf, nf, cf, pe, ne, ce, k0, by rw [Nat.add_assoc]; exact k1, by rw [Nat.add_assoc]; exact k2, by rw [Nat.add_assoc]; exact k3, by rw [Nat.add_assoc]; exact k4, q1, q2, q3, q4, q5, q6⟩
/-- a graph among the arguments -/
theorem open_graph {H : Type} {enc : TypeId × Value → H} {W : World} {fuel : Nat} {v : Value} {x : DataW H × List MemPlace} (hv : ∃ cs : Array Value, v = .agg cs) (h : DataW.trod enc Tryz.prog W 0 (fun _ => true) true fuel 25 v.cells.toList = some x) (hw : ∀ n ∈ x.1.weights Tryz.prog 25, n ≤ reachBytes) :
    ∃ (na ra : Option Addr) (nn nr cn cr : Nat) (ns : List (Int × Int × List Int × List Int × List Int)) (rs : List Int), v = .agg #[.slice na nn cn, .slice ra nr cr] ∧ AG0 W W.heap.size na ra nn nr ns rs := by
  obtain ⟨cs, rfl⟩ := hv
  obtain ⟨y0, y1, n', hxy, hl3, g0, g1⟩ := trod_struct2 Tryz.underlying25 h
  have hc : (Value.agg cs).cells = cs := rfl
  rw [hc] at hl3 g0 g1
  rw [cells_graph] at hl3
  obtain ⟨v0, v1, rfl⟩ := size2 hl3
  simp [cells_nodes, cells_vals] at g0 g1
  subst hxy
  obtain ⟨p1, ns, c1, e1, k1, k2, k3⟩ := open_nodes g0 (fun k hk => hw k (by simp [DataW.weights, DataW.weightsEach, Tryz.underlying25, hk]))
  obtain ⟨p2, n2, rs, c2, e2, m1, m2, m3⟩ := open_vals g1 (fun k hk => hw k (by simp [DataW.weights, DataW.weightsEach, Tryz.underlying25, hk]))
  simp only [List.cons.injEq, and_true] at e1 e2
  subst e1 e2
  refine ⟨p1, p2, ns.length, n2, c1, c2, ns, rs, rfl, rfl, m1, k1, m2, by omega, by omega, fun n hn => ?_⟩
  have := k3 n hn
  omega
end Go.Proofs.YtghlbdmldahnlaaGreatDoor
