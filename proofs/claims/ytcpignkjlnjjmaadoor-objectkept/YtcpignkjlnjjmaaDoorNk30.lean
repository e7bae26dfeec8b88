import Derived.Test.YtcpignkjlnjjmaaDoorNk29
import Derived.Test.YtcpignkjlnjjmaaDoorNk00
namespace Go.Proofs.YtcpignkjlnjjmaaDoor
open Go.ChangeShapes Go.WideShapes Go.ChangeAt Go.RowKit Go.Deep
set_option linter.unusedVariables false
set_option linter.unusedSimpArgs false

theorem cell_in {w : World} {a : Addr} {v : Value} (h : w.cell? a = some v) : a.block < w.heap.size := by
  by_cases hb : a.block < w.heap.size
  · exact hb
  · have : w.heap[a.block]? = none := by simp; omega
    simp [World.cell?, this] at h
theorem open_list {H : Type} {enc : TypeId × Value → H} {W : World} {fuel : Nat} {cs : List Value} {x : DataW H × List MemPlace} (h : DataW.trod enc Tryd.prog W 0 (fun _ => true) true fuel 22 cs = some x) :
    ∃ (p : Option Addr) (L : List Int) (cap : Nat), cs = [.slice p L.length cap] ∧ SlI W W.heap.size p L := by
  rcases open_slice1 Tryd.underlying22 cells_int h with h0 | ⟨a, len, cap, m, n, V, D, Pl, rfl, hb, hl, hm, hmm, rfl, hx⟩
  · exact ⟨none, [], 0, h0.1, ⟨(fun x hx => by cases hx), .inl rfl⟩⟩
  simp only [if_true] at hmm
  subst hmm
  have each : ∀ i, i < len → ∃ z : Int, W.cell? (a.add i) = some (.int .i64 z) ∧ -9223372036854775808 ≤ z ∧ z ≤ 9223372036854775807 := by
    intro i hi
    obtain ⟨h1, h2⟩ := hx i (by omega)
    obtain ⟨z, e, _, hw⟩ := DataW.trod_int Tryd.underlying3 h2
    simp only [List.cons.injEq, and_true] at e
    exact ⟨z, by rw [h1, e], i64_bounds hw⟩
  obtain ⟨q, hq⟩ := choose_lt each
  have hlen : ((List.range len).map q).length = len := by simp
  refine ⟨some a, (List.range len).map q, _, by rw [hlen], ⟨fun x hx => ?_, ?_⟩⟩
  · obtain ⟨i, hi, rfl⟩ := List.mem_map.1 hx
    exact (hq i (by simpa using hi)).2
  · by_cases h0 : len = 0
    · left; subst h0; rfl
    · right
      obtain ⟨b, off, spot⟩ := a
      have hspot : spot = none := by
        have := (hq 0 (by omega)).1
        simpa [Addr.add] using World.cell?_spot this
      subst hspot
      refine ⟨b, off, rfl, ?_, fun j x hj => ?_⟩
      · have := cell_in (hq 0 (by omega)).1
        simpa [Addr.add] using this
      · have hj' : j < len := by have := (List.getElem?_eq_some_iff.1 hj).1; simpa using this
        have e : x = q j := by rw [List.getElem?_map, List.getElem?_range hj'] at hj; simpa using hj.symm
        rw [e]
        have := (hq j hj').1
        rw [add_plain] at this
        exact this
end Go.Proofs.YtcpignkjlnjjmaaDoor
namespace Go.Proofs.YtcpignkjlnjjmaaDoor
open Go.ChangeShapes Go.WideShapes Go.ChangeAt Go.RowKit Go.Deep
set_option linter.unusedVariables false
set_option linter.unusedSimpArgs false

/-- puts: the object, the word, the value's kind and number -/
def PutsAt (w : World) (b : Nat) (p : Option Addr) (os : List (Int × Int × Int × Int)) : Prop :=
  (∀ o ∈ os, (-9223372036854775808 ≤ o.1 ∧ o.1 ≤ 9223372036854775807) ∧ (-9223372036854775808 ≤ o.2.1 ∧ o.2.1 ≤ 9223372036854775807) ∧ (-9223372036854775808 ≤ o.2.2.2 ∧ o.2.2.2 ≤ 9223372036854775807)) ∧
  (os = [] ∨ ∃ g off, p = some ⟨g, off, none⟩ ∧ g < b ∧ ∀ j o, os[j]? = some o → w.cell? ⟨g, off + j * 4, none⟩ = some (.int .i64 o.1) ∧ w.cell? ⟨g, off + j * 4 + 1, none⟩ = some (.int .i64 o.2.1) ∧ w.cell? ⟨g, off + j * 4 + 2, none⟩ = some (.int .i64 o.2.2.1) ∧ w.cell? ⟨g, off + j * 4 + 3, none⟩ = some (.int .i64 o.2.2.2))
theorem PutsAt.kept {w w' : World} {b x y : Nat} {p : Option Addr} {L : List (Int × Int × Int × Int)} (h : PutsAt w b p L) (o : Out x y w w') (hx : b ≤ x ∨ y = 0) : PutsAt w' b p L := by
  refine ⟨h.1, ?_⟩
  rcases h.2 with h | ⟨g, off, h1, h2, h3⟩
  · exact .inl h
  · refine .inr ⟨g, off, h1, h2, fun j q hj => ?_⟩
    obtain ⟨a, b, c, d⟩ := h3 j q hj
    exact ⟨o.cell a (by omega), o.cell b (by omega), o.cell c (by omega), o.cell d (by omega)⟩
theorem cells_put : Tryd.prog.cellsOf 40 = 4 := by kernel_rfl
theorem cells_val2 : Tryd.prog.cellsOf 31 = 2 := by kernel_rfl
theorem trod_s3 {H : Type} {enc : TypeId × Value → H} {P : Program} {w : World} {base : Nat} {spare : Nat → Bool} {held : Bool} {t : TypeId} {f0 f1 f2 : Field} {fuel : Nat} {cs : List Value} {x : DataW H × List MemPlace} (ht : P.underlying t = some (.struct #[f0, f1, f2])) (h : DataW.trod enc P w base spare held fuel t cs = some x) :
    ∃ (y0 y1 y2 : DataW H × List MemPlace) (n : Nat), DataW.trod enc P w base spare held n f0.type ((cs.drop f0.offset).take (P.cellsOf f0.type)) = some y0 ∧ DataW.trod enc P w base spare held n f1.type ((cs.drop f1.offset).take (P.cellsOf f1.type)) = some y1 ∧ DataW.trod enc P w base spare held n f2.type ((cs.drop f2.offset).take (P.cellsOf f2.type)) = some y2 := by
  obtain ⟨xs, n, _, rfl, hl, hlen, hf⟩ := DataW.trod_struct ht h
  match xs, hlen with
  | [y0, y1, y2], _ => exact ⟨y0, y1, y2, n, by simpa using hf 0 f0 rfl, by simpa using hf 1 f1 rfl, by simpa using hf 2 f2 rfl⟩
theorem trod_s2 {H : Type} {enc : TypeId × Value → H} {P : Program} {w : World} {base : Nat} {spare : Nat → Bool} {held : Bool} {t : TypeId} {f0 f1 : Field} {fuel : Nat} {cs : List Value} {x : DataW H × List MemPlace} (ht : P.underlying t = some (.struct #[f0, f1])) (h : DataW.trod enc P w base spare held fuel t cs = some x) :
    ∃ (y0 y1 : DataW H × List MemPlace) (n : Nat), DataW.trod enc P w base spare held n f0.type ((cs.drop f0.offset).take (P.cellsOf f0.type)) = some y0 ∧ DataW.trod enc P w base spare held n f1.type ((cs.drop f1.offset).take (P.cellsOf f1.type)) = some y1 := by
  obtain ⟨xs, n, _, rfl, hl, hlen, hf⟩ := DataW.trod_struct ht h
  match xs, hlen with
  | [y0, y1], _ => exact ⟨y0, y1, n, by simpa using hf 0 f0 rfl, by simpa using hf 1 f1 rfl⟩
set_option maxRecDepth 100000 in
set_option maxHeartbeats 1000000 in
theorem open_puts {H : Type} {enc : TypeId × Value → H} {W : World} {fuel : Nat} {cs : List Value} {x : DataW H × List MemPlace} (h : DataW.trod enc Tryd.prog W 0 (fun _ => true) true fuel 23 cs = some x) :
    ∃ (p : Option Addr) (os : List (Int × Int × Int × Int)) (cap : Nat), cs = [.slice p os.length cap] ∧ PutsAt W W.heap.size p os := by
  rcases open_slice Tryd.underlying23 h with h0 | ⟨a, len, cap, m, n, D, Pl, rfl, hb, hl, hm, hmm, rfl, hx⟩
  · exact ⟨none, [], 0, h0.1, ⟨(fun x hx => by cases hx), .inl rfl⟩⟩
  simp only [if_true] at hmm
  subst hmm
  have each : ∀ i, i < len → ∃ q : Int × Int × Int × Int, W.cell? (a.add (i * 4)) = some (.int .i64 q.1) ∧ W.cell? (a.add (i * 4 + 1)) = some (.int .i64 q.2.1) ∧ W.cell? (a.add (i * 4 + 2)) = some (.int .i64 q.2.2.1) ∧ W.cell? (a.add (i * 4 + 3)) = some (.int .i64 q.2.2.2) ∧ (-9223372036854775808 ≤ q.1 ∧ q.1 ≤ 9223372036854775807) ∧ (-9223372036854775808 ≤ q.2.1 ∧ q.2.1 ≤ 9223372036854775807) ∧ (-9223372036854775808 ≤ q.2.2.2 ∧ q.2.2.2 ≤ 9223372036854775807) := by
    intro i hi
    obtain ⟨cs', h1, h2⟩ := hx i (by omega)
    rw [cells_put] at h1
    obtain ⟨_, hlen, hcell⟩ := World.cells?_some h1
    obtain ⟨y0, y1, y2, n', g0, g1, g2⟩ := trod_s3 Tryd.underlying40 h2
    match cs', hlen with
    | [v0, v1, v2, v3], _ =>
      simp [cells_int, cells_val2] at g0 g1 g2
      obtain ⟨z0, e0, _, w0⟩ := DataW.trod_int Tryd.underlying3 g0
      obtain ⟨z1, e1, _, w1⟩ := DataW.trod_int Tryd.underlying3 g1
      obtain ⟨y3, y4, n'', g3, g4⟩ := trod_s2 Tryd.underlying31 g2
      simp [cells_int] at g3 g4
      obtain ⟨z2, e2, _, w2⟩ := DataW.trod_int Tryd.underlying3 g3
      obtain ⟨z3, e3, _, w3⟩ := DataW.trod_int Tryd.underlying3 g4
      simp only [List.cons.injEq, and_true] at e0 e1 e2 e3
      have f0 := hcell 0 (by omega)
      have f1 := hcell 1 (by omega)
      have f2 := hcell 2 (by omega)
      have f3 := hcell 3 (by omega)
      rw [add_add] at f0 f1 f2 f3
      exact ⟨(z0, z1, z2, z3), by simpa [e0] using f0, by simpa [e1] using f1, by simpa [e2] using f2, by simpa [e3] using f3, i64_bounds w0, i64_bounds w1, i64_bounds w3⟩
  obtain ⟨q, hq⟩ := choose_lt each
  have hlen : ((List.range len).map q).length = len := by simp
  refine ⟨some a, (List.range len).map q, _, by rw [hlen], ⟨fun o ho => ?_, ?_⟩⟩
  · obtain ⟨i, hi, rfl⟩ := List.mem_map.1 ho
    exact (hq i (by simpa using hi)).2.2.2.2
  · by_cases h0 : len = 0
    · left; subst h0; rfl
    · right
      obtain ⟨b, off, spot⟩ := a
      have hspot : spot = none := by
        have := (hq 0 (by omega)).1
        simpa [Addr.add] using World.cell?_spot this
      subst hspot
      refine ⟨b, off, rfl, ?_, fun j o hj => ?_⟩
      · have := cell_in (hq 0 (by omega)).1
        simpa [Addr.add] using this
      · have hj' : j < len := by have := (List.getElem?_eq_some_iff.1 hj).1; simpa using this
        have e : o = q j := by rw [List.getElem?_map, List.getElem?_range hj'] at hj; simpa using hj.symm
        rw [e]
        obtain ⟨c0, c1, c2, c3, _⟩ := hq j hj'
        rw [add_plain] at c0 c1 c2 c3
        exact ⟨c0, by simpa [Nat.add_assoc] using c1, by simpa [Nat.add_assoc] using c2, by simpa [Nat.add_assoc] using c3⟩
end Go.Proofs.YtcpignkjlnjjmaaDoor
namespace Go.Proofs.YtcpignkjlnjjmaaDoor
open Go.RowKit
set_option linter.unusedVariables false
set_option linter.unusedSimpArgs false

theorem info_ten : (Tryd.prog.info? 37).map (fun i => (i.zero, i.size, i.bytes)) = some (some (.agg #[.int .i64 0, .int .i64 0, .int .i64 0, .int .i64 0, .int .i64 0, .int .i64 0, .int .i64 0, .int .i64 0, .int .i64 0, .int .i64 0, .int .i64 0, .int .i64 0, .int .i64 0, .int .i64 0, .int .i64 0, .int .i64 0, .int .i64 0, .int .i64 0, .int .i64 0, .int .i64 0]), 20, 160) := by kernel_rfl
theorem all_zero {zs : Array Value} (hz : zs = Array.replicate 20 (.int .i64 0)) {i k : Nat} (h : i < k) : (madeCells zs k)[i]? = some (.int .i64 0) := by
  subst hz
  have h20 : i % 20 < 20 := Nat.mod_lt _ (by omega)
  simp [madeCells, h, getElem!_pos, h20]
theorem make_has (m : Nat) (hm : m ≤ 12) : ∃ cur : Array Value, (∀ i, i < m * 20 → cur[i]? = some (.int .i64 0)) ∧ cur.size = m * 20 ∧ ∀ w : World, (Instr.makeSlice 29 (.int .i64 (m : Int)) (.int .i64 (m : Int))).run Tryd.prog w = .ok (.slice (some ⟨w.heap.size, 0, none⟩) m m) (w.alloc (.cells cur 37)) := by
  obtain ⟨i0, hi, hz0, hz1, hz2⟩ := info_parts info_ten
  refine ⟨madeCells (Array.replicate 20 (.int .i64 0)) (m * 20), fun i h => all_zero rfl h, size_madeCells _ _, fun w => ?_⟩
  have := run_make (P := Tryd.prog) w 29 37 i0 _ Tryd.underlying29 hi hz0 .i64 .i64 (m : Int) (m : Int) (by omega) (Int.le_refl _) (by rw [hz2]; omega) (by omega)
  rw [this, hz1]
  simp [Value.cells]
  rfl
/-- of each object what its words told, up to the object i and its word b -/
def HasTo (w : World) (g : Nat) (st : Sp) (l : List Nat) (i b : Nat) : Prop :=
  ∃ f : Nat → Value, Row w g 37 (l.length * 20) f ∧ ∀ j q a, l[j]? = some q → 1 ≤ a → a ≤ 8 → (j < i ∨ j = i ∧ a < b) → f (j * 20 + a * 2) = .int .i64 (gtQ 4 st q a).1 ∧ f (j * 20 + a * 2 + 1) = .int .i64 (gtQ 4 st q a).2.1
theorem HasTo.kept {w w' : World} {g i b x y : Nat} {st : Sp} {l : List Nat} (h : HasTo w g st l i b) (o : Out x y w w') (hx : g < x ∨ y ≤ g) : HasTo w' g st l i b := by
  obtain ⟨f, h1, h2⟩ := h
  exact ⟨f, h1.kept o hx, h2⟩
theorem HasTo.new {w : World} {g : Nat} {st : Sp} {l : List Nat} {cur : Array Value} (h : w.heap[g]? = some (.cells cur 37 (0, 0))) (h1 : ∀ i, i < l.length * 20 → cur[i]? = some (.int .i64 0)) (h2 : cur.size = l.length * 20) : HasTo w g st l 0 0 :=
  ⟨fun _ => .int .i64 0, ⟨cur, h, by omega, h1⟩, fun j q a _ _ _ h => by omega⟩
theorem HasTo.cells {w : World} {g i b j a : Nat} {st : Sp} {l : List Nat} (h : HasTo w g st l i b) (hj : j < l.length) (h8 : a ≤ 8) : (∃ v, w.cell? ⟨g, j * 20 + a * 2, none⟩ = some v) ∧ (∃ v, w.cell? ⟨g, j * 20 + a * 2 + 1, none⟩ = some v) ∧ w.frozen? ⟨g, j * 20 + a * 2, none⟩ = false ∧ w.frozen? ⟨g, j * 20 + a * 2 + 1, none⟩ = false := by
  obtain ⟨f, h1, h2⟩ := h
  exact ⟨⟨_, h1.cell (by omega)⟩, ⟨_, h1.cell (by omega)⟩, h1.frozen _, h1.frozen _⟩
theorem HasTo.at {w : World} {g i b j a q : Nat} {st : Sp} {l : List Nat} (h : HasTo w g st l i b) (hj : l[j]? = some q) (h1 : 1 ≤ a) (h8 : a ≤ 8) (hlt : j < i ∨ j = i ∧ a < b) {y1 y2 y3 y4 : Int} (hy : gtQ 4 st q a = (y1, y2, y3, y4)) : w.cell? ⟨g, j * 20 + a * 2, none⟩ = some (.int .i64 y1) ∧ w.cell? ⟨g, j * 20 + a * 2 + 1, none⟩ = some (.int .i64 y2) := by
  obtain ⟨f, r, h2⟩ := h
  have hl := (List.getElem?_eq_some_iff.1 hj).1
  obtain ⟨e1, e2⟩ := h2 j q a hj h1 h8 hlt
  rw [hy] at e1 e2
  rw [r.cell (by omega), r.cell (by omega), e1, e2]
  exact ⟨rfl, rfl⟩
theorem HasTo.step {w : World} {g i b q : Nat} {st : Sp} {l : List Nat} (h : HasTo w g st l i b) (hj : l[i]? = some q) (h8 : b ≤ 8) {y1 y2 y3 y4 : Int} (hy : gtQ 4 st q b = (y1, y2, y3, y4)) : HasTo ((w.setCell ⟨g, i * 20 + b * 2, none⟩ (.int .i64 y1)).setCell ⟨g, i * 20 + b * 2 + 1, none⟩ (.int .i64 y2)) g st l i (b + 1) := by
  obtain ⟨f, r, h2⟩ := h
  refine ⟨_, (r.set _ _).set _ _, fun j q' a hq a1 a8 hlt => ?_⟩
  by_cases c : j = i ∧ a = b
  · obtain ⟨rfl, rfl⟩ := c
    rw [hj] at hq
    cases hq
    rw [hy]
    simp
  · obtain ⟨e1, e2⟩ := h2 j q' a hq a1 a8 (by omega)
    rw [if_neg (by omega), if_neg (by omega), if_neg (by omega), if_neg (by omega)]
    exact ⟨e1, e2⟩
theorem HasTo.next {w : World} {g i : Nat} {st : Sp} {l : List Nat} (h : HasTo w g st l i 9) : HasTo w g st l (i + 1) 1 := by
  obtain ⟨f, r, h2⟩ := h
  exact ⟨f, r, fun j q' a hq a1 a8 hlt => h2 j q' a hq a1 a8 (by omega)⟩
theorem HasTo.less {w : World} {g i b : Nat} {st : Sp} {l : List Nat} (h : HasTo w g st l i (b + 1)) : HasTo w g st l i b := by
  obtain ⟨f, r, h2⟩ := h
  exact ⟨f, r, fun j q' a hq a1 a8 hlt => h2 j q' a hq a1 a8 (by omega)⟩
theorem HasTo.first {w : World} {g i : Nat} {st : Sp} {l : List Nat} (h : HasTo w g st l i 0) : HasTo w g st l i 1 := by
  obtain ⟨f, r, h2⟩ := h
  exact ⟨f, r, fun j q' a hq a1 a8 hlt => h2 j q' a hq a1 a8 (by omega)⟩
theorem HasTo.same {w : World} {g i b k q : Nat} {st : Sp} {l : List Nat} {A xk xn : Int} (h : HasTo w g st l i b) (hi : Inv 4 st) (hR : Rt 4 st) (ha : ∀ a ∈ l, hasB (st.O a) = true) (hk : l[k]? = some q) (hs : stB 4 st q A xk xn = false) : HasTo w g (stS 4 st q A xk xn) l i b := by
  have : stS 4 st q A xk xn = st := by unfold stS; rw [hs]; simp
  rw [this]
  exact h
/-- behind a Set that went well, and the store beside it -/
theorem HasTo.put {w : World} {g k q a : Nat} {st : Sp} {l : List Nat} {xk xn : Int} (h : HasTo w g st l l.length 1) (hd : l.Nodup) (hi : Inv 4 st) (hR : Rt 4 st) (ha : ∀ a ∈ l, hasB (st.O a) = true) (hk : l[k]? = some q) (hs : stB 4 st q (a : Int) xk xn = true) (h8 : a ≤ 8) : HasTo ((w.setCell ⟨g, k * 20 + a * 2, none⟩ (.int .i64 xk)).setCell ⟨g, k * 20 + a * 2 + 1, none⟩ (.int .i64 xn)) g (stS 4 st q (a : Int) xk xn) l l.length 1 := by
  obtain ⟨f, r, h2⟩ := h
  refine ⟨_, (r.set _ _).set _ _, fun j q' b hq a1 a8 hlt => ?_⟩
  have hgt := gt_set (i := (a : Int)) (xk := xk) (xn := xn) (a := (b : Int)) hi hR (ha q (List.mem_of_getElem? hk)) (ha q' (List.mem_of_getElem? hq))
  by_cases c : j = k ∧ b = a
  · obtain ⟨rfl, rfl⟩ := c
    rw [hk] at hq
    cases hq
    rw [if_pos ⟨hs, rfl, rfl⟩] at hgt
    rw [hgt]
    simp
  · rw [if_neg] at hgt
    · obtain ⟨e1, e2⟩ := h2 j q' b hq a1 a8 hlt
      rw [hgt]
      rw [if_neg (by omega), if_neg (by omega), if_neg (by omega), if_neg (by omega)]
      exact ⟨e1, e2⟩
    · rintro ⟨_, rfl, e⟩
      have hjk : j = k := (List.getElem?_inj (List.getElem?_eq_some_iff.1 hq).1 hd).1 (by rw [hq, hk])
      exact c ⟨hjk, by omega⟩
theorem st_not {n q : Nat} {st : Sp} {i xk xn : Int} (h : stE n st q i xk xn ≠ 0) : stB n st q i xk xn = false := by
  cases hs : stB n st q i xk xn
  · rfl
  · exfalso; apply h; unfold stE; rw [hs]; simp
set_option maxRecDepth 100000 in
theorem nevv (a b : Int) (W : World) : (binOp .neq 31 (.agg #[.int .i64 a, .int .i64 b]) (.agg #[.int .i64 a, .int .i64 b])).run Tryd.prog W = .ok (.bool false) W := by
  go_simp
/-- the law's heap, its list of objects and its row -/
def KSt (w0 : World) (lo hi : Nat) (s : Nat → Nat) (cap hb gl gH : Nat) (wr : World) (st : Sp) (l : List Nat) : Prop :=
  SpAt wr lo hi s 4 cap st ∧ Rt 4 st ∧ wr.cell? ⟨hb, 0, none⟩ = some (.pointer (some ⟨s 14, 0, none⟩)) ∧ (∀ j q : Nat, l[j]? = some q → wr.cell? ⟨gl, j * 2, none⟩ = some (.int .i64 2) ∧ wr.cell? ⟨gl, j * 2 + 1, none⟩ = some (.int .i64 (q : Int))) ∧ (∀ a ∈ l, hasB (st.O a) = true ∧ (st.O a).2.1 ≤ 9) ∧ Out 0 0 w0 wr ∧ gH < wr.heap.size
def KCon (w0 : World) (lo hi hb gl gH : Nat) : Prop := w0.heap.size ≤ lo ∧ lo ≤ hi ∧ hi ≤ hb ∧ hb < gl ∧ gl < gH
theorem KSt.quiet {w0 wr w' : World} {lo hi cap hb gl gH : Nat} {s : Nat → Nat} {st : Sp} {l : List Nat} (h : KSt w0 lo hi s cap hb gl gH wr st l) (o : Out 0 0 wr w') : KSt w0 lo hi s cap hb gl gH w' st l := by
  obtain ⟨h1, h2, h3, h4, h5, h6, h7⟩ := h
  exact ⟨h1.quiet o, h2, o.cell h3 (.inr (Nat.zero_le _)), fun j q hq => ⟨o.cell (h4 j q hq).1 (.inr (Nat.zero_le _)), o.cell (h4 j q hq).2 (.inr (Nat.zero_le _))⟩, h5, h6.trans o, Nat.lt_of_lt_of_le h7 o.size⟩
theorem KSt.set {w0 wr w' : World} {lo hi cap hb gl gH : Nat} {s : Nat → Nat} {st st' : Sp} {l : List Nat} (h : KSt w0 lo hi s cap hb gl gH wr st l) (hc : KCon w0 lo hi hb gl gH) (hs : SpAt w' lo hi s 4 cap st') (hr : Rt 4 st') (hO : st'.O = st.O) (o : Out lo hi wr w') : KSt w0 lo hi s cap hb gl gH w' st' l := by
  obtain ⟨h1, h2, h3, h4, h5, h6, h7⟩ := h
  obtain ⟨c1, c2, c3, c4, c5⟩ := hc
  exact ⟨hs, hr, o.cell h3 (.inr c3), fun j q hq => ⟨o.cell (h4 j q hq).1 (.inr (by omega)), o.cell (h4 j q hq).2 (.inr (by omega))⟩, by rw [hO]; exact h5, h6.then o c1, Nat.lt_of_lt_of_le h7 o.size⟩
theorem KSt.row {w0 wr w' : World} {lo hi cap hb gl gH : Nat} {s : Nat → Nat} {st : Sp} {l : List Nat} (h : KSt w0 lo hi s cap hb gl gH wr st l) (hc : KCon w0 lo hi hb gl gH) (o : Out gH (gH + 1) wr w') : KSt w0 lo hi s cap hb gl gH w' st l := by
  obtain ⟨h1, h2, h3, h4, h5, h6, h7⟩ := h
  obtain ⟨c1, c2, c3, c4, c5⟩ := hc
  have hg := h1.1.glob
  exact ⟨h1.kept o (.inl (by omega)) (.inl (by omega)), h2, o.cell h3 (.inl (by omega)), fun j q hq => ⟨o.cell (h4 j q hq).1 (.inl c5), o.cell (h4 j q hq).2 (.inl c5)⟩, h5, h6.then o (by omega), Nat.lt_of_lt_of_le h7 o.size⟩
theorem KSt.start {w0 wr w' : World} {lo hi cap hb gl gH : Nat} {s : Nat → Nat} {st : Sp} {l : List Nat} {pc : Nat} (h : Md w0 lo hi s cap hb (.slice (some ⟨gl, 0, none⟩) l.length pc) wr st l) (hz : ∀ a ∈ l, (st.O a).2.1 ≤ 9) (o : Out 0 0 wr w') (hg : gH < w'.heap.size) : KSt w0 lo hi s cap hb gl gH w' st l := by
  obtain ⟨h1, h2, h3, h4, h5, h6⟩ := h
  obtain ⟨po, pc', e, hat⟩ := h4.at
  cases e
  refine ⟨h1.quiet o, h2, o.cell h3 (.inr (Nat.zero_le _)), fun j q hq => ?_, fun a ha => ⟨h5 a ha, hz a ha⟩, h6.trans o, hg⟩
  obtain ⟨g, e, _, _, c1, c2⟩ := hat j q hq
  cases e
  exact ⟨o.cell c1 (.inr (Nat.zero_le _)), o.cell c2 (.inr (Nat.zero_le _))⟩
theorem Md.con {w0 wr : World} {lo hi cap hb gl gH : Nat} {s : Nat → Nat} {st : Sp} {l : List Nat} {pc : Nat} (h : Md w0 lo hi s cap hb (.slice (some ⟨gl, 0, none⟩) l.length pc) wr st l) (hl : l.length ≠ 0) (hh : hi ≤ hb) (hlo : w0.heap.size ≤ lo) (hg : gH = wr.heap.size) : KCon w0 lo hi hb gl gH := by
  obtain ⟨h1, h2, h3, h4, h5, h6⟩ := h
  obtain ⟨po, pc', e, hat⟩ := h4.at
  cases e
  obtain ⟨q, hq⟩ : ∃ q, l[0]? = some q := ⟨_, List.getElem?_eq_getElem (by omega)⟩
  obtain ⟨g, e, k1, k2, _⟩ := hat 0 q hq
  cases e
  have := h1.1.inn 14 (by omega)
  exact ⟨hlo, by omega, hh, by omega, by omega⟩
end Go.Proofs.YtcpignkjlnjjmaaDoor
namespace Go.Proofs.YtcpignkjlnjjmaaDoor
open Go.RowKit
set_option linter.unusedVariables false
set_option linter.unusedSimpArgs false

section
variable {P : Program} {ops : Array Oper} {Q : Exit → Act → World → Prop} {md : Region.Mode} {S : World → Prop} {z : Nat}
/-- whatever order is picked: S holds behind every operation but z -/
def wpAnyT (P : Program) (md : Region.Mode) (ops : Array Oper) (Q : Exit → Act → World → Prop) (S : World → Prop) (z : Nat) : Nat → Array Bool → Act → World → Prop
  | 0, listed, a, w => Region.ready md ops listed = [] ∧ Q .normal a w
  | fuel + 1, listed, a, w =>
    (Region.ready md ops listed = [] → Q .normal a w) ∧
    ∀ i ∈ Region.ready md ops listed, wpOp P ops Q i (fun a' w' => (i ≠ z → S w') ∧ wpAnyT P md ops Q S z fuel (listed.setIfInBounds i true) a' w') a w
theorem wpAny_of_T : ∀ (fuel : Nat) (listed : Array Bool) (a : Act) (w : World), wpAnyT P md ops Q S z fuel listed a w → wpAny P md ops Q fuel listed a w
  | 0, _, _, _, h => h
  | fuel + 1, _, _, _, h => ⟨h.1, fun i hi => wpOp_mono (fun a' w' h' => wpAny_of_T fuel _ a' w' h'.2) (h.2 i hi)⟩
/-- does z wait for i? -/
def waitsFor (md : Region.Mode) (ops : Array Oper) (z i : Nat) : Bool := match ops[z]? with
  | some oz => oz.after.any fun e => Region.binds md e && e.on == i
  | none => false
theorem waits_spec {i : Nat} (h : waitsFor md ops z i = true) : ∃ oz, ops[z]? = some oz ∧ ∃ e ∈ oz.after, Region.binds md e = true ∧ e.on = i := by
  unfold waitsFor at h
  cases hz : ops[z]? with
  | none => rw [hz] at h; cases h
  | some oz =>
    rw [hz] at h
    refine ⟨oz, rfl, ?_⟩
    dsimp only at h
    rw [Array.any_eq_true'] at h
    obtain ⟨e, he, h2⟩ := h
    simp at h2
    exact ⟨e, he, h2.1, h2.2⟩
theorem wpAnyT_first {i : Nat} {oi : Oper} {v : Value} (hi : ops[i]? = some oi) (hsel : ∀ (j : Nat) (o : Oper) cs b, ops[j]? = some o → o.op ≠ .select cs b)
    (hQ : ∀ c a w, Q (.panic c) (a.put oi.dst v) w → Q (.panic c) a w) (hz : ∃ oz, ops[z]? = some oz ∧ ∃ e ∈ oz.after, Region.binds md e = true ∧ e.on = i) :
    ∀ (fuel : Nat) (listed : Array Bool) (a : Act) (w : World),
      (∀ j oj, ops[j]? = some oj → j ≠ i → listed.getD j true = false → (∀ e ∈ oj.after, Region.binds md e = true → e.on ≠ i) → oi.apart ops oj = true) →
      i ∈ Region.ready md ops listed → YieldsIf P ops S oi v a → S w →
      wpAnyT P md ops Q S z fuel (listed.setIfInBounds i true) (a.put oi.dst v) w → wpAnyT P md ops Q S z (fuel + 1) listed a w := by
  intro fuel
  induction fuel with
  | zero =>
    intro listed a w _ hr hy hS H
    refine ⟨fun h => (by rw [h] at hr; cases hr), fun j hj => ?_⟩
    by_cases hji : j = i
    · subst hji; exact hy.wpOp hi hS ⟨fun _ => hS, H⟩
    · have := ready_mono hj hji
      rw [H.1] at this
      cases this
  | succ fuel ih =>
    intro listed a w hfree hr hy hS H
    refine ⟨fun h => (by rw [h] at hr; cases hr), fun j hj => ?_⟩
    by_cases hji : j = i
    · subst hji; exact hy.wpOp hi hS ⟨fun _ => hS, H⟩
    · have h1 := H.2 j (ready_mono hj hji)
      obtain ⟨hjun, oj, hoj, hall⟩ := mem_ready.1 hj
      have hnot : ∀ e ∈ oj.after, Region.binds md e = true → e.on ≠ i := fun e he hb heq => by
        have h1 := hall e he hb
        have h0 := (mem_ready.1 hr).1
        rw [heq] at h1
        rcases Nat.lt_or_ge i listed.size with h' | h'
        · simp [h'] at h0 h1; rw [h0] at h1; cases h1
        · simp [Array.getElem?_eq_none h'] at h1
      have hjz : j ≠ z := by
        intro e
        subst e
        obtain ⟨oz, hoz, e, he, he2, he3⟩ := hz
        rw [hoj] at hoz
        cases hoz
        exact hnot e he he2 he3
      have h2 := wpOp_putIf hoj (hfree j oj hoj hji hjun hnot) (fun cs b => hsel i oi cs b hi) (fun cs b => hsel j oj cs b hoj) hQ hy h1
      have hfree' : ∀ k ok, ops[k]? = some ok → k ≠ i → (listed.setIfInBounds j true).getD k true = false →
          (∀ e ∈ ok.after, Region.binds md e = true → e.on ≠ i) → oi.apart ops ok = true := fun k ok hk hki hun hno => by
        refine hfree k ok hk hki ?_ hno
        by_cases hjk : j = k
        · subst hjk; exact hjun
        · rw [getD_set_ne true hjk] at hun; exact hun
      refine wpOp_mono (fun a' w' h3 => ⟨h3.2.1, ih (listed.setIfInBounds j true) a' w' hfree' (ready_mono hr (Ne.symm hji)) h3.1 (h3.2.1 hjz) ?_⟩) h2
      rw [Array.setIfInBounds_comm _ _ hji]
      exact h3.2.2
theorem wpAnyT_take {i : Nat} {oi : Oper} {v : Value} {fuel : Nat} {listed : Array Bool} {a : Act} {w : World} (hi : ops[i]? = some oi)
    (hs : Region.noSelect ops = true) (hf : Region.free md ops listed i = true) (hr : (Region.ready md ops listed).contains i = true) (hz : waitsFor md ops z i = true)
    (hQ : ∀ c a w, Q (.panic c) (a.put oi.dst v) w → Q (.panic c) a w) (hy : YieldsIf P ops S oi v a) (hS : S w)
    (h : wpAnyT P md ops Q S z fuel (listed.setIfInBounds i true) (a.put oi.dst v) w) : wpAnyT P md ops Q S z (fuel + 1) listed a w :=
  wpAnyT_first hi (Region.noSelect_spec hs) hQ (waits_spec hz) fuel listed a w (Region.free_spec hi hf) (by simpa using hr) hy hS h
theorem tkT (i : Nat) {oi : Oper} {v : Value} {fuel : Nat} {listed l' : Array Bool} {a a' : Act} {w : World}
    (h : wpAnyT P md ops Q S z fuel l' a' w) (hi : ops[i]? = some oi := by exact rfl) (hs : Region.noSelect ops = true := by kernel_rfl) (hf : Region.free md ops listed i = true := by kernel_rfl) (hr : (Region.ready md ops listed).contains i = true := by kernel_rfl) (hz : waitsFor md ops z i = true := by kernel_rfl)
    (hw : Region.wanted oi (yielded ops a.tmps) = true := by rfl)
    (hy : ∀ w, S w → (execOp a.eval oi).run P w = .ok (.value v) w := by intro w hSw; (try dsimp only at hSw); simp only [xa, xb, xc]; go_simp; (try with_reducible rfl))
    (hS : S w := by assumption)
    (hl : listed.setIfInBounds i true = l' := by (try simp only [List.setIfInBounds_toArray, List.set_cons_zero, List.set_cons_succ]); exact rfl)
    (ha : a.put oi.dst v = a' := by (try simp only [Act.put, xa, xb, xc, xd, xe, xf]); exact rfl)
    (hQ : ∀ c a w, Q (.panic c) (a.put oi.dst v) w → Q (.panic c) a w := by exact fun _ _ _ h => h) : wpAnyT P md ops Q S z (fuel + 1) listed a w := by
  subst hl ha
  exact wpAnyT_take hi hs hf hr hz hQ (Or.inl ⟨hw, hy⟩) hS h
/-- one operation alone may come up, and it is not z -/
theorem wpAnyT_one {i : Nat} {o : Oper} {fuel : Nat} {listed : Array Bool} {a : Act} {w : World} (hr : Region.ready md ops listed = [i]) (ho : ops[i]? = some o)
    (h : ∀ K' : Act → World → Prop, Shut (∀ a w, S w → (S w → wpAnyT P md ops Q S z fuel (listed.setIfInBounds i true) a w) → K' a w) → if Region.wanted o (yielded ops a.tmps) = true then Oper.wp P o a w K' Q else K' (a.put o.dst undef) w) : wpAnyT P md ops Q S z (fuel + 1) listed a w := by
  refine ⟨fun h0 => (by rw [hr] at h0; cases h0), fun j hj => ?_⟩
  rw [hr] at hj
  simp at hj
  subst hj
  exact wpOp_step ho (fun K' hK => h K' (fun a w hS hW => hK a w ⟨fun _ => hS, hW hS⟩))
/-- z comes up -/
theorem wpAnyT_last {o : Oper} {fuel : Nat} {listed : Array Bool} {a : Act} {w : World} (hr : Region.ready md ops listed = [z]) (ho : ops[z]? = some o)
    (h : ∀ K' : Act → World → Prop, Shut (∀ a w, wpAnyT P md ops Q S z fuel (listed.setIfInBounds z true) a w → K' a w) → if Region.wanted o (yielded ops a.tmps) = true then Oper.wp P o a w K' Q else K' (a.put o.dst undef) w) : wpAnyT P md ops Q S z (fuel + 1) listed a w := by
  refine ⟨fun h0 => (by rw [hr] at h0; cases h0), fun j hj => ?_⟩
  rw [hr] at hj
  simp at hj
  subst hj
  exact wpOp_step ho (fun K' hK => h K' (fun a w hW => hK a w ⟨fun e => absurd rfl e, hW⟩))
theorem wpAnyT_done {listed : Array Bool} {a : Act} {w : World} (hr : Region.ready md ops listed = []) (h : Q .normal a w) :
    ∀ fuel, wpAnyT P md ops Q S z fuel listed a w
  | 0 => ⟨hr, h⟩
  | _ + 1 => ⟨fun _ => h, by rw [hr]; simp⟩
theorem wp_region_T {id : Nat} {a : Act} {w : World} (hm : P.follows .mixedOrders = true) (hS : S w.drew)
    (h : S w.drew → wpAnyT P .any ops Q S z ops.size (Array.replicate ops.size false) a w.drew) : (Code.region id ops true).wp P Q a w :=
  wp_region_any hm (wpAny_of_T _ _ _ _ (h hS))
end
end Go.Proofs.YtcpignkjlnjjmaaDoor
