import Derived.Test.YtapjfokkcgdhhaaDoorQam
import Derived.SizedLaws
import Derived.Deep.Slices
import Derived.Deep.Strs
namespace Go.Proofs.YtapjfokkcgdhhaaDoor
open Go.ChangeShapes Go.WideShapes Go.ChangeAt Go.RowKit Go.Deep
set_option linter.unusedVariables false
set_option linter.unusedSimpArgs false

theorem u8_bounds {n : Int} (h : (Lit.int .u8 n).wf = true) : 0 ≤ n ∧ n ≤ 255 := by
  simpa [Lit.wf, IntKind.min, IntKind.max, IntKind.signed, IntKind.bits] using h
theorem cells_u8 : Tryd.prog.cellsOf 5 = 1 := by kernel_rfl
theorem cells_int : Tryd.prog.cellsOf 3 = 1 := by kernel_rfl
theorem cells_bytes : Tryd.prog.cellsOf 22 = 1 := by kernel_rfl
theorem cells_texts : Tryd.prog.cellsOf 25 = 1 := by kernel_rfl
theorem cells_code : Tryd.prog.cellsOf 38 = 1 := by kernel_rfl
theorem cells_funcs : Tryd.prog.cellsOf 33 = 1 := by kernel_rfl
theorem cells_ins : Tryd.prog.cellsOf 61 = 2 := by kernel_rfl
theorem cells_func : Tryd.prog.cellsOf 40 = 4 := by kernel_rfl
theorem cells_prog : Tryd.prog.cellsOf 35 = 3 := by kernel_rfl
theorem bytes_u8 : Tryd.prog.bytesOf 5 = 1 := by kernel_rfl
theorem bytes_bytes : Tryd.prog.bytesOf 22 = 24 := by kernel_rfl
theorem bytes_ins : Tryd.prog.bytesOf 61 = 16 := by kernel_rfl
theorem bytes_func : Tryd.prog.bytesOf 40 = 48 := by kernel_rfl
theorem cell_in {w : World} {a : Addr} {v : Value} (h : w.cell? a = some v) : a.block < w.heap.size := by
  by_cases hb : a.block < w.heap.size
  · exact hb
  · have : w.heap[a.block]? = none := by simp; omega
    simp [World.cell?, this] at h
theorem len2 {l : List Value} (h : l.length = 2) : ∃ a b, l = [a, b] := by
  match l, h with
  | [a, b], _ => exact ⟨a, b, rfl⟩
theorem len4 {l : List Value} (h : l.length = 4) : ∃ a b c d, l = [a, b, c, d] := by
  match l, h with
  | [a, b, c, d], _ => exact ⟨a, b, c, d, rfl⟩
theorem size3 {cs : Array Value} (h : cs.toList.length = 3) : ∃ a b c, cs = #[a, b, c] := by
  obtain ⟨l⟩ := cs
  match l, h with
  | [a, b, c], _ => exact ⟨a, b, c, rfl⟩
theorem weightsAll_in {H : Type} {P : Program} {e : TypeId} {d : DataW H} {n : Nat} (hn : n ∈ d.weights P e) : ∀ {l : List (DataW H)}, d ∈ l → n ∈ DataW.weightsAll P e l
  | [], h => by cases h
  | x :: r, h => by
    simp only [DataW.weightsAll, List.mem_append]
    rcases List.mem_cons.1 h with h | h
    · subst h; exact .inl hn
    · exact .inr (weightsAll_in hn h)
theorem open_bytes {H : Type} {enc : TypeId × Value → H} {W : World} {fuel : Nat} {cs : List Value} {x : DataW H × List MemPlace} (h : DataW.trod enc Tryd.prog W 0 (fun _ => true) true fuel 22 cs = some x) (hw : ∀ n ∈ x.1.weights Tryd.prog 22, n ≤ reachBytes) :
    ∃ (p : Option Addr) (L : List Int) (cap : Nat), cs = [.slice p L.length cap] ∧ ByIn W W.heap.size p L ∧ L.length ≤ 140737488351232 ∧ L.length ≤ cap := by
  rcases open_slice1 Tryd.underlying22 cells_u8 h with h0 | ⟨a, len, cap, m, n, V, D, Pl, rfl, hb, hl, hm, hmm, rfl, hx⟩
  · exact ⟨none, [], 0, h0.1, ⟨(fun x hx => by cases hx), .inl rfl⟩, Nat.zero_le _, Nat.zero_le _⟩
  simp only [if_true] at hmm
  subst hmm
  have each : ∀ i, i < len → ∃ z : Int, W.cell? (a.add i) = some (.int .u8 z) ∧ 0 ≤ z ∧ z ≤ 255 := by
    intro i hi
    obtain ⟨h1, h2⟩ := hx i (by omega)
    obtain ⟨z, e, _, hw⟩ := DataW.trod_int Tryd.underlying5 h2
    simp only [List.cons.injEq, and_true] at e
    exact ⟨z, by rw [h1, e], u8_bounds hw⟩
  obtain ⟨q, hq⟩ := choose_lt each
  have hlen : ((List.range len).map q).length = len := by simp
  have hle : len ≤ 140737488351232 := by
    have := hw ((len + (m - len)) * 1) (by simp [DataW.weights, Tryd.underlying22, bytes_u8])
    unfold reachBytes at this
    omega
  refine ⟨some a, (List.range len).map q, _, by rw [hlen], ⟨fun x hx => ?_, ?_⟩, by rw [hlen]; exact hle, by rw [hlen]; exact hl⟩
  · obtain ⟨i, hi, rfl⟩ := List.mem_map.1 hx
    exact (hq i (by simpa using hi)).2
  · by_cases h0 : len = 0
    · left; subst h0; rfl
    · right
      obtain ⟨b, off, spot⟩ := a
      have hspot : spot = none := by
        have := (hq 0 (by omega)).1
        simpa [Addr.add] using World.cell?_spot this
      subst hspot
      refine ⟨b, off, rfl, ?_, fun j x hj => ?_⟩
      · have := cell_in (hq 0 (by omega)).1
        simpa [Addr.add] using this
      · have hj' : j < len := by have := (List.getElem?_eq_some_iff.1 hj).1; simpa using this
        have e : x = q j := by rw [List.getElem?_map, List.getElem?_range hj'] at hj; simpa using hj.symm
        rw [e]
        have := (hq j hj').1
        rw [add_plain] at this
        exact this
theorem open_texts {H : Type} {enc : TypeId × Value → H} {W : World} {fuel : Nat} {cs : List Value} {x : DataW H × List MemPlace} (h : DataW.trod enc Tryd.prog W 0 (fun _ => true) true fuel 25 cs = some x) (hw : ∀ n ∈ x.1.weights Tryd.prog 25, n ≤ reachBytes) :
    ∃ (p : Option Addr) (ts : List (List Int)) (cap : Nat), cs = [.slice p ts.length cap] ∧ TxIn W W.heap.size p ts ∧ (∀ t ∈ ts, t.length ≤ 140737488351232) ∧ ts.length ≤ 140737488351232 := by
  rcases open_slice1 Tryd.underlying25 cells_bytes h with h0 | ⟨a, len, cap, m, n, V, D, Pl, rfl, hb, hl, hm, hmm, rfl, hx⟩
  · exact ⟨none, [], 0, h0.1, .inl rfl, (fun t ht => by cases ht), by simp⟩
  simp only [if_true] at hmm
  subst hmm
  have each : ∀ i, i < len → ∃ z : Option Addr × List Int × Nat, W.cell? (a.add i) = some (.slice z.1 z.2.1.length z.2.2) ∧ ByIn W W.heap.size z.1 z.2.1 ∧ z.2.1.length ≤ 140737488351232 := by
    intro i hi
    obtain ⟨h1, h2⟩ := hx i (by omega)
    obtain ⟨p, L, c, e, hB, hl2, _⟩ := open_bytes h2 (fun n hn => hw n (by
      simp only [DataW.weights, Tryd.underlying25, List.mem_cons, List.mem_append]
      exact .inr (.inl (weightsAll_in hn (List.mem_map.2 ⟨i, List.mem_range.2 hi, rfl⟩)))))
    simp only [List.cons.injEq, and_true] at e
    exact ⟨(p, L, c), by rw [h1, e], hB, hl2⟩
  obtain ⟨q, hq⟩ := choose_lt each
  have hlen : ((List.range len).map fun i => (q i).2.1).length = len := by simp
  refine ⟨some a, (List.range len).map fun i => (q i).2.1, _, by rw [hlen], ?_, fun t ht => ?_, by rw [hlen]; have := hw ((len + (m - len)) * 24) (by simp [DataW.weights, Tryd.underlying25, bytes_bytes]); unfold reachBytes at this; omega⟩
  rotate_left
  · obtain ⟨i, hi, rfl⟩ := List.mem_map.1 ht
    exact (hq i (by simpa using hi)).2.2
  by_cases h0 : len = 0
  · left; subst h0; rfl
  · right
    obtain ⟨b, off, spot⟩ := a
    have hspot : spot = none := by
      have := (hq 0 (by omega)).1
      simpa [Addr.add] using World.cell?_spot this
    subst hspot
    refine ⟨b, off, rfl, ?_, fun j t hj => ?_⟩
    · have := cell_in (hq 0 (by omega)).1
      simpa [Addr.add] using this
    · have hj' : j < len := by have := (List.getElem?_eq_some_iff.1 hj).1; simpa using this
      have e : t = (q j).2.1 := by rw [List.getElem?_map, List.getElem?_range hj'] at hj; simpa using hj.symm
      subst e
      have := (hq j hj').1
      rw [add_plain] at this
      exact ⟨(q j).1, (q j).2.2, this, (hq j hj').2.1⟩
theorem open_code {H : Type} {enc : TypeId × Value → H} {W : World} {fuel : Nat} {cs : List Value} {x : DataW H × List MemPlace} (h : DataW.trod enc Tryd.prog W 0 (fun _ => true) true fuel 38 cs = some x) (hw : ∀ n ∈ x.1.weights Tryd.prog 38, n ≤ reachBytes) :
    ∃ (p : Option Addr) (l : List (Int × Int)) (cap : Nat), cs = [.slice p l.length cap] ∧ InIn W W.heap.size p l ∧ MI l ∧ l.length ≤ 140737488351232 := by
  rcases open_slice Tryd.underlying38 h with h0 | ⟨a, len, cap, m, n, D, Pl, rfl, hb, hl, hm, hmm, rfl, hx⟩
  · exact ⟨none, [], 0, h0.1, .inl rfl, (fun t ht => by cases ht), by simp⟩
  simp only [if_true] at hmm
  subst hmm
  have each : ∀ i, i < len → ∃ q : Int × Int, W.cell? (a.add (i * 2)) = some (.int .i64 q.1) ∧ W.cell? (a.add (i * 2 + 1)) = some (.int .i64 q.2) ∧ (-9223372036854775808 ≤ q.1 ∧ q.1 ≤ 9223372036854775807) ∧ -9223372036854775808 ≤ q.2 ∧ q.2 ≤ 9223372036854775807 := by
    intro i hi
    obtain ⟨cs', h1, h2⟩ := hx i (by omega)
    rw [cells_ins] at h1
    obtain ⟨_, hlen, hcell⟩ := World.cells?_some h1
    obtain ⟨y0, y1, n', hxy, hl3, g0, g1⟩ := trod_struct2 Tryd.underlying61 h2
    obtain ⟨v0, v1, rfl⟩ := len2 hlen
    · skip
      simp [cells_int] at g0 g1
      obtain ⟨z0, e0, _, w0⟩ := DataW.trod_int Tryd.underlying3 g0
      obtain ⟨z1, e1, _, w1⟩ := DataW.trod_int Tryd.underlying3 g1
      simp only [List.cons.injEq, and_true] at e0 e1
      have f0 := hcell 0 (by omega)
      have f1 := hcell 1 (by omega)
      rw [add_add] at f0 f1
      exact ⟨(z0, z1), by simpa [e0] using f0, by simpa [e1] using f1, i64_bounds w0, i64_bounds w1⟩
  obtain ⟨q, hq⟩ := choose_lt each
  have hlen : ((List.range len).map q).length = len := by simp
  have hle : len ≤ 140737488351232 := by
    have := hw ((len + (m - len)) * 16) (by simp [DataW.weights, Tryd.underlying38, bytes_ins])
    unfold reachBytes at this
    omega
  refine ⟨some a, (List.range len).map q, _, by rw [hlen], ?_, fun t ht => ?_, by rw [hlen]; exact hle⟩
  rotate_left
  · obtain ⟨i, hi, rfl⟩ := List.mem_map.1 ht
    exact (hq i (by simpa using hi)).2.2
  by_cases h0 : len = 0
  · left; subst h0; rfl
  · right
    obtain ⟨b, off, spot⟩ := a
    have hspot : spot = none := by
      have := (hq 0 (by omega)).1
      simpa [Addr.add] using World.cell?_spot this
    subst hspot
    refine ⟨b, off, rfl, ?_, fun j t hj => ?_⟩
    · have := cell_in (hq 0 (by omega)).1
      simpa [Addr.add] using this
    · have hj' : j < len := by have := (List.getElem?_eq_some_iff.1 hj).1; simpa using this
      have e : t = q j := by rw [List.getElem?_map, List.getElem?_range hj'] at hj; simpa using hj.symm
      subst e
      have k1 := (hq j hj').1
      have k2 := (hq j hj').2.1
      rw [add_plain] at k1 k2
      exact ⟨k1, by rw [Nat.add_assoc]; exact k2⟩
theorem open_funcs {H : Type} {enc : TypeId × Value → H} {W : World} {fuel : Nat} {cs : List Value} {x : DataW H × List MemPlace} (h : DataW.trod enc Tryd.prog W 0 (fun _ => true) true fuel 33 cs = some x) (hw : ∀ n ∈ x.1.weights Tryd.prog 33, n ≤ reachBytes) :
    ∃ (p : Option Addr) (fs : List (Int × Int × Int × List (Int × Int))) (cap : Nat), cs = [.slice p fs.length cap] ∧ FnIn W W.heap.size p fs ∧ (∀ f ∈ fs, MI f.2.2.2 ∧ f.2.2.2.length ≤ 140737488351232) ∧ fs.length ≤ 140737488351232 := by
  rcases open_slice Tryd.underlying33 h with h0 | ⟨a, len, cap, m, n, D, Pl, rfl, hb, hl, hm, hmm, rfl, hx⟩
  · exact ⟨none, [], 0, h0.1, .inl rfl, (fun t ht => by cases ht), by simp⟩
  simp only [if_true] at hmm
  subst hmm
  have each : ∀ i, i < len → ∃ q : (Int × Int × Int × List (Int × Int)) × Option Addr × Nat, W.cell? (a.add (i * 4)) = some (.int .i64 q.1.1) ∧ W.cell? (a.add (i * 4 + 1)) = some (.int .i64 q.1.2.1) ∧ W.cell? (a.add (i * 4 + 2)) = some (.int .i64 q.1.2.2.1) ∧ W.cell? (a.add (i * 4 + 3)) = some (.slice q.2.1 q.1.2.2.2.length q.2.2) ∧ InIn W W.heap.size q.2.1 q.1.2.2.2 ∧ MI q.1.2.2.2 ∧ q.1.2.2.2.length ≤ 140737488351232 := by
    intro i hi
    obtain ⟨cs', h1, h2⟩ := hx i (by omega)
    rw [cells_func] at h1
    obtain ⟨_, hlen, hcell⟩ := World.cells?_some h1
    obtain ⟨y0, y1, y2, y3, n', hxy, hl3, g0, g1, g2, g3⟩ := Go.Joins.trod_struct4 Tryd.underlying40 h2
    obtain ⟨v0, v1, v2, v3, rfl⟩ := len4 hlen
    · skip
      simp [cells_int, cells_code] at g0 g1 g2 g3
      obtain ⟨z0, e0, _, w0⟩ := DataW.trod_int Tryd.underlying3 g0
      obtain ⟨z1, e1, _, w1⟩ := DataW.trod_int Tryd.underlying3 g1
      obtain ⟨z2, e2, _, w2⟩ := DataW.trod_int Tryd.underlying3 g2
      obtain ⟨p3, l3, c3, e3, hI, hMI, hl4⟩ := open_code g3 (fun k hk => hw k (by
        simp only [DataW.weights, Tryd.underlying33, List.mem_cons, List.mem_append]
        refine .inr (.inl (weightsAll_in (d := D i) ?_ (List.mem_map.2 ⟨i, List.mem_range.2 hi, rfl⟩)))
        have hD : D i = _ := congrArg Prod.fst hxy
        rw [hD]
        simp [DataW.weights, DataW.weightsEach, Tryd.underlying40, hk]))
      simp only [List.cons.injEq, and_true] at e0 e1 e2 e3
      have f0 := hcell 0 (by omega)
      have f1 := hcell 1 (by omega)
      have f2 := hcell 2 (by omega)
      have f3 := hcell 3 (by omega)
      rw [add_add] at f0 f1 f2 f3
      exact ⟨((z0, z1, z2, l3), p3, c3), by simpa [e0] using f0, by simpa [e1] using f1, by simpa [e2] using f2, by simpa [e3] using f3, hI, hMI, hl4⟩
  obtain ⟨q, hq⟩ := choose_lt each
  have hlen : ((List.range len).map fun i => (q i).1).length = len := by simp
  have hle : len ≤ 140737488351232 := by
    have := hw ((len + (m - len)) * 48) (by simp [DataW.weights, Tryd.underlying33, bytes_func])
    unfold reachBytes at this
    omega
  refine ⟨some a, (List.range len).map fun i => (q i).1, _, by rw [hlen], ?_, fun t ht => ?_, by rw [hlen]; exact hle⟩
  rotate_left
  · obtain ⟨i, hi, rfl⟩ := List.mem_map.1 ht
    exact (hq i (by simpa using hi)).2.2.2.2.2
  by_cases h0 : len = 0
  · left; subst h0; rfl
  · right
    obtain ⟨b, off, spot⟩ := a
    have hspot : spot = none := by
      have := (hq 0 (by omega)).1
      simpa [Addr.add] using World.cell?_spot this
    subst hspot
    refine ⟨b, off, rfl, ?_, fun j t hj => ?_⟩
    · have := cell_in (hq 0 (by omega)).1
      simpa [Addr.add] using this
    · have hj' : j < len := by have := (List.getElem?_eq_some_iff.1 hj).1; simpa using this
      have e : t = (q j).1 := by rw [List.getElem?_map, List.getElem?_range hj'] at hj; simpa using hj.symm
      subst e
      obtain ⟨k1, k2, k3, k4, k5, _⟩ := hq j hj'
      rw [add_plain] at k1 k2 k3 k4
      exact ⟨(q j).2.1, (q j).2.2, k1, by rw [Nat.add_assoc]; exact k2, by rw [Nat.add_assoc]; exact k3, by rw [Nat.add_assoc]; exact k4, k5⟩
/-- a program among the arguments -/
theorem open_prog {H : Type} {enc : TypeId × Value → H} {W : World} {fuel : Nat} {v : Value} {x : DataW H × List MemPlace} (hv : ∃ cs : Array Value, v = .agg cs) (h : DataW.trod enc Tryd.prog W 0 (fun _ => true) true fuel 35 v.cells.toList = some x) (hw : ∀ n ∈ x.1.weights Tryd.prog 35, n ≤ reachBytes) :
    ∃ (g : Int) (ta fa : Option Addr) (ts : List (List Int)) (fs : List (Int × Int × Int × List (Int × Int))) (tc fc : Nat), v = .agg #[.int .i64 g, .slice ta ts.length tc, .slice fa fs.length fc] ∧ TxIn W W.heap.size ta ts ∧ FnIn W W.heap.size fa fs ∧ (∀ t ∈ ts, t.length ≤ 140737488351232) ∧ ts.length ≤ 140737488351232 ∧ (∀ f ∈ fs, MI f.2.2.2 ∧ f.2.2.2.length ≤ 140737488351232) ∧ fs.length ≤ 140737488351232 := by
  obtain ⟨cs, rfl⟩ := hv
  obtain ⟨y0, y1, y2, n', hxy, hl3, g0, g1, g2⟩ := trod_struct3 Tryd.underlying35 h
  have hc : (Value.agg cs).cells = cs := rfl
  rw [hc] at hl3 g0 g1 g2
  rw [cells_prog] at hl3
  obtain ⟨v0, v1, v2, rfl⟩ := size3 hl3
  simp [cells_int, cells_texts, cells_funcs] at g0 g1 g2
  subst hxy
  obtain ⟨z0, e0, _, w0⟩ := DataW.trod_int Tryd.underlying3 g0
  obtain ⟨p1, ts, c1, e1, k1, k2, k3⟩ := open_texts g1 (fun k hk => hw k (by simp [DataW.weights, DataW.weightsEach, Tryd.underlying35, hk]))
  obtain ⟨p2, fs, c2, e2, m1, m2, m3⟩ := open_funcs g2 (fun k hk => hw k (by simp [DataW.weights, DataW.weightsEach, Tryd.underlying35, hk]))
  simp only [List.cons.injEq, and_true] at e0 e1 e2
  subst e0 e1 e2
  exact ⟨z0, p1, p2, ts, fs, c1, c2, rfl, k1, m1, k2, k3, m2, m3⟩
end Go.Proofs.YtapjfokkcgdhhaaDoor
