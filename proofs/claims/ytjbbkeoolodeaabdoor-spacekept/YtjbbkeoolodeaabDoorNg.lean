import Derived.Test.YtjbbkeoolodeaabDoorNf
import Derived.Test.YtjbbkeoolodeaabDoorMq
namespace Go.Proofs.YtjbbkeoolodeaabDoor
open Go.RowKit
set_option linter.unusedVariables false
set_option linter.unusedSimpArgs false

theorem wst_new {w : World} {b N lo hi cap : Nat} {s : Nat → Nat} (hb : b < lo) (hg : 4 ≤ b) (hs : SpAt w lo hi s N cap newSp) (hw : WAt w b N (s 14) (.slice none 0 0) 0) : WSt w b N lo hi cap s w newSp [] :=
  ⟨⟨hb, by have := hs.1.inn 14 (by omega); simp [ln] at this; omega, hs.1.top, hg⟩, Out.refl _ _ _, hs, bare_rt (bare_new N), obl_new, _, hw, ⟨rfl, .inl ⟨rfl, rfl⟩⟩⟩
theorem al_next {n : Nat} {st st2 : Sp} {z v er ea : Int} (hi : Inv n st) (hR : Rt n st) (h : alF n st 3 z 0 = (v, er, ea, st2)) (he : er = 0) : Rt n st2 ∧ st2.last ≤ st.last + 1 := by
  cases hf : fitsB 3 z with
  | false =>
    have ha : alF n st 3 z 0 = (0, 24, 0, st) := by unfold alF; rw [hf]; rfl
    rw [ha] at h
    simp at h
    omega
  | true =>
    rcases al_right (t := 0) hi hR hf with ⟨_, a2⟩ | ⟨a, fresh, _, a2, _, a4, _, _, _⟩
    · rw [a2] at h
      simp at h
      omega
    · rw [a2] at h
      simp at h
      obtain ⟨_, _, _, rfl⟩ := h
      refine ⟨a4, ?_⟩
      show lastOf st 3 ≤ _
      unfold lastOf; split <;> omega
end Go.Proofs.YtjbbkeoolodeaabDoor
namespace Go.Proofs.YtjbbkeoolodeaabDoor
open Go.ChangeShapes Go.WideShapes Go.ChangeAt Go.RowKit Go.Deep
set_option linter.unusedVariables false
set_option linter.unusedSimpArgs false

theorem cells_opT : Tryd.prog.cellsOf 69 = 6 := by kernel_rfl
theorem cells_sl : Tryd.prog.cellsOf 27 = 1 := by kernel_rfl
theorem trod_struct6 {H : Type} {enc : TypeId × Value → H} {P : Program} {w : World} {base : Nat} {spare : Nat → Bool} {held : Bool} {t : TypeId} {f0 f1 f2 f3 f4 f5 : Field} {fuel : Nat} {cs : List Value} {x : DataW H × List MemPlace} (ht : P.underlying t = some (.struct #[f0, f1, f2, f3, f4, f5])) (h : DataW.trod enc P w base spare held fuel t cs = some x) :
    ∃ (y0 y1 y2 y3 y4 y5 : DataW H × List MemPlace) (n : Nat), DataW.trod enc P w base spare held n f0.type ((cs.drop f0.offset).take (P.cellsOf f0.type)) = some y0 ∧ DataW.trod enc P w base spare held n f1.type ((cs.drop f1.offset).take (P.cellsOf f1.type)) = some y1 ∧
      DataW.trod enc P w base spare held n f2.type ((cs.drop f2.offset).take (P.cellsOf f2.type)) = some y2 ∧ DataW.trod enc P w base spare held n f3.type ((cs.drop f3.offset).take (P.cellsOf f3.type)) = some y3 ∧ DataW.trod enc P w base spare held n f4.type ((cs.drop f4.offset).take (P.cellsOf f4.type)) = some y4 ∧ DataW.trod enc P w base spare held n f5.type ((cs.drop f5.offset).take (P.cellsOf f5.type)) = some y5 := by
  obtain ⟨xs, n, _, rfl, hl, hlen, hf⟩ := DataW.trod_struct ht h
  match xs, hlen with
  | [y0, y1, y2, y3, y4, y5], _ => exact ⟨y0, y1, y2, y3, y4, y5, n, by simpa using hf 0 f0 rfl, by simpa using hf 1 f1 rfl, by simpa using hf 2 f2 rfl, by simpa using hf 3 f3 rfl, by simpa using hf 4 f4 rfl, by simpa using hf 5 f5 rfl⟩
theorem cell_in {w : World} {a : Addr} {v : Value} (h : w.cell? a = some v) : a.block < w.heap.size := by
  by_cases hb : a.block < w.heap.size
  · exact hb
  · have : w.heap[a.block]? = none := by simp; omega
    simp [World.cell?, this] at h
theorem open_list {H : Type} {enc : TypeId × Value → H} {W : World} {fuel : Nat} {cs : List Value} {x : DataW H × List MemPlace} (h : DataW.trod enc Tryd.prog W 0 (fun _ => true) true fuel 27 cs = some x) :
    ∃ (p : Option Addr) (L : List Int) (cap : Nat), cs = [.slice p L.length cap] ∧ SlI W W.heap.size p L := by
  rcases open_slice1 Tryd.underlying27 cells_int h with h0 | ⟨a, len, cap, m, n, V, D, Pl, rfl, hb, hl, hm, hmm, rfl, hx⟩
  · exact ⟨none, [], 0, h0.1, ⟨(fun x hx => by cases hx), .inl rfl⟩⟩
  simp only [if_true] at hmm
  subst hmm
  have each : ∀ i, i < len → ∃ z : Int, W.cell? (a.add i) = some (.int .i64 z) ∧ -9223372036854775808 ≤ z ∧ z ≤ 9223372036854775807 := by
    intro i hi
    obtain ⟨h1, h2⟩ := hx i (by omega)
    obtain ⟨z, e, _, hw⟩ := DataW.trod_int Tryd.underlying3 h2
    simp only [List.cons.injEq, and_true] at e
    exact ⟨z, by rw [h1, e], i64_bounds hw⟩
  obtain ⟨q, hq⟩ := choose_lt each
  have hlen : ((List.range len).map q).length = len := by simp
  refine ⟨some a, (List.range len).map q, _, by rw [hlen], ⟨fun x hx => ?_, ?_⟩⟩
  · obtain ⟨i, hi, rfl⟩ := List.mem_map.1 hx
    exact (hq i (by simpa using hi)).2
  · by_cases h0 : len = 0
    · left; subst h0; rfl
    · right
      obtain ⟨b, off, spot⟩ := a
      have hspot : spot = none := by
        have := (hq 0 (by omega)).1
        simpa [Addr.add] using World.cell?_spot this
      subst hspot
      refine ⟨b, off, rfl, ?_, fun j x hj => ?_⟩
      · have := cell_in (hq 0 (by omega)).1
        simpa [Addr.add] using this
      · have hj' : j < len := by have := (List.getElem?_eq_some_iff.1 hj).1; simpa using this
        have e : x = q j := by rw [List.getElem?_map, List.getElem?_range hj'] at hj; simpa using hj.symm
        rw [e]
        have := (hq j hj').1
        rw [add_plain] at this
        exact this
def mkO (t : Int × Int × Int × Int × List Int) : OpQ := ⟨t.1, t.2.1, t.2.2.1, t.2.2.2.1, t.2.2.2.2⟩
set_option maxRecDepth 100000 in
set_option maxHeartbeats 1000000 in
theorem open_script {H : Type} {enc : TypeId × Value → H} {W : World} {fuel : Nat} {cs : List Value} {x : DataW H × List MemPlace} (h : DataW.trod enc Tryd.prog W 0 (fun _ => true) true fuel 22 cs = some x) :
    ∃ (p : Option Addr) (os : List OpQ) (cap : Nat), cs = [.slice p os.length cap] ∧ ScrAt W W.heap.size p os := by
  rcases open_slice Tryd.underlying22 h with h0 | ⟨a, len, cap, m, n, D, Pl, rfl, hb, hl, hm, hmm, rfl, hx⟩
  · exact ⟨none, [], 0, h0.1, ⟨(fun x hx => by cases hx), .inl rfl⟩⟩
  simp only [if_true] at hmm
  subst hmm
  have each : ∀ i, i < len → ∃ q : (Int × Int × Int × Int × List Int) × Int × Option Addr × Nat, W.cell? (a.add (i * 6)) = some (.int .i64 q.2.1) ∧ W.cell? (a.add (i * 6 + 1)) = some (.int .i64 (mkO q.1).k) ∧ W.cell? (a.add (i * 6 + 2)) = some (.int .i64 (mkO q.1).a) ∧ W.cell? (a.add (i * 6 + 3)) = some (.int .i64 (mkO q.1).b) ∧
      W.cell? (a.add (i * 6 + 4)) = some (.int .i64 (mkO q.1).c) ∧ W.cell? (a.add (i * 6 + 5)) = some (.slice q.2.2.1 (mkO q.1).L.length q.2.2.2) ∧ SlI W W.heap.size q.2.2.1 (mkO q.1).L ∧ -9223372036854775808 ≤ (mkO q.1).a ∧ (mkO q.1).a ≤ 9223372036854775807 ∧ -9223372036854775808 ≤ (mkO q.1).b ∧ (mkO q.1).b ≤ 9223372036854775807 := by
    intro i hi
    obtain ⟨cs', h1, h2⟩ := hx i (by omega)
    rw [cells_opT] at h1
    obtain ⟨_, hlen, hcell⟩ := World.cells?_some h1
    obtain ⟨y0, y1, y2, y3, y4, y5, n', g0, g1, g2, g3, g4, g5⟩ := trod_struct6 Tryd.underlying69 h2
    match cs', hlen with
    | [v0, v1, v2, v3, v4, v5], _ =>
      simp [cells_int, cells_sl] at g0 g1 g2 g3 g4 g5
      obtain ⟨z0, e0, _, w0⟩ := DataW.trod_int Tryd.underlying3 g0
      obtain ⟨z1, e1, _, w1⟩ := DataW.trod_int Tryd.underlying3 g1
      obtain ⟨z2, e2, _, w2⟩ := DataW.trod_int Tryd.underlying3 g2
      obtain ⟨z3, e3, _, w3⟩ := DataW.trod_int Tryd.underlying3 g3
      obtain ⟨z4, e4, _, w4⟩ := DataW.trod_int Tryd.underlying3 g4
      obtain ⟨lp, L, lc, e5, hSl⟩ := open_list g5
      simp only [List.cons.injEq, and_true] at e0 e1 e2 e3 e4 e5
      have f0 := hcell 0 (by omega)
      have f1 := hcell 1 (by omega)
      have f2 := hcell 2 (by omega)
      have f3 := hcell 3 (by omega)
      have f4 := hcell 4 (by omega)
      have f5 := hcell 5 (by omega)
      rw [add_add] at f0 f1 f2 f3 f4 f5
      obtain ⟨r1, r2⟩ := i64_bounds w2
      obtain ⟨r3, r4⟩ := i64_bounds w3
      exact ⟨((z1, z2, z3, z4, L), z0, lp, lc), by simpa [e0] using f0, by simpa [e1, mkO] using f1, by simpa [e2, mkO] using f2, by simpa [e3, mkO] using f3, by simpa [e4, mkO] using f4, by simpa [e5, mkO] using f5, hSl, r1, r2, r3, r4⟩
  obtain ⟨q, hq⟩ := choose_lt each
  have hlen : ((List.range len).map fun i => mkO (q i).1).length = len := by simp
  have getq : ∀ j o, ((List.range len).map fun i => mkO (q i).1)[j]? = some o → j < len ∧ o = mkO (q j).1 := by
    intro j o hj
    have hj' : j < len := by have := (List.getElem?_eq_some_iff.1 hj).1; simpa using this
    rw [List.getElem?_map, List.getElem?_range hj'] at hj
    exact ⟨hj', by simpa using hj.symm⟩
  refine ⟨some a, (List.range len).map (fun i => mkO (q i).1), _, by rw [hlen], ⟨fun o ho => ?_, ?_⟩⟩
  · obtain ⟨i, hi, rfl⟩ := List.mem_map.1 ho
    exact (hq i (by simpa using hi)).2.2.2.2.2.2.2
  · by_cases h0 : len = 0
    · left; subst h0; rfl
    · right
      obtain ⟨b, off, spot⟩ := a
      have hspot : spot = none := by
        have := (hq 0 (by omega)).1
        simpa [Addr.add] using World.cell?_spot this
      subst hspot
      refine ⟨b, off, rfl, ?_, fun j o hj => ?_⟩
      · have := cell_in (hq 0 (by omega)).1
        simpa [Addr.add] using this
      · obtain ⟨hj', rfl⟩ := getq j o hj
        obtain ⟨c0, c1, c2, c3, c4, c5, c6, _⟩ := hq j hj'
        rw [add_plain] at c0 c1 c2 c3 c4 c5
        exact ⟨_, _, _, c0, by rw [Nat.add_assoc]; exact c1, by rw [Nat.add_assoc]; exact c2, by rw [Nat.add_assoc]; exact c3, by rw [Nat.add_assoc]; exact c4, by rw [Nat.add_assoc]; exact c5, c6⟩
end Go.Proofs.YtjbbkeoolodeaabDoor
