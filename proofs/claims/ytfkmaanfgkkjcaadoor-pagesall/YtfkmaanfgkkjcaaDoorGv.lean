/- every look; many pairs: the first two, a copy -/
import Derived.Test.YtfkmaanfgkkjcaaDoorGr
import Derived.Test.YtfkmaanfgkkjcaaDoorGu
import Derived.Deep.Slices
import Derived.Lib.SmallJoins
namespace Go.Proofs.YtfkmaanfgkkjcaaDoor
open Go.RowKit
set_option linter.unusedVariables false
set_option linter.unusedSimpArgs false

theorem looked_any {B : Nat} {w : World} {d : Desc} (h : PairK B w d) (hT : Tab w) (hu : d.u = true) (z k a : Int) (hk : 10 ≤ k ∧ k ≤ 12) :
    Calls Tryd.prog 11 #[.pointer (some ⟨d.b, 0, none⟩), .agg #[.int .i64 z, .int .i64 k, .int .i64 a]] w fun e w' => e = .returned (.bool true) ∧ ∃ d', Act B w w' d d' ∧ d'.u = true := by
  have : k = 10 ∨ k = 11 ∨ k = 12 := by omega
  rcases this with rfl | rfl | rfl
  · exact (looked_10 h z a).mono fun e w' ⟨h1, d', h2, h3⟩ => ⟨h1, d', h2, h3.trans hu⟩
  · exact (looked_11 h hT z a).mono fun e w' ⟨h1, d', h2, h3⟩ => ⟨h1, d', h2, h3.trans hu⟩
  · exact looked_12 h hu z a
theorem apart_act {B : Nat} {w : World} {d : Desc} (h : PairK B w d) :
    Calls Tryd.prog 12 #[.pointer (some ⟨d.b, 0, none⟩)] w fun e w' => e = .returned (.bool true) ∧ ∃ d', Act B w w' d d' := by
  obtain ⟨⟨vL, vW, vS, vM, L, Wr, Ls, Mk, C, hk, k1, k2, k3, k4⟩, hN, h3, h4, h5, h6, h7⟩ := h
  have hP : PairK B w d := ⟨⟨vL, vW, vS, vM, L, Wr, Ls, Mk, C, hk, k1, k2, k3, k4⟩, hN, h3, h4, h5, h6, h7⟩
  have hu : L.length = 0 ∨ (d.u = true ∧ Wr.length = L.length) := by
    cases hd : d.u with
    | false => left; rw [k2]; exact (hN.2 hd).1
    | true => exact .inr ⟨rfl, k1 hd⟩
  have hb : L.length ≤ 68 ∧ Mk.length + 18 * L.length ≤ 1836 := by
    cases hd : d.u with
    | false => have := hN.2 hd; omega
    | true => obtain ⟨m, m1, m2, m3⟩ := hN.1 hd; omega
  refine (apart_any hk hu hb.1 k3 hb.2 h3 h4 h5).mono ?_
  rintro e w' ⟨rfl, vL', vW', vS', vM', Wr', Ls', Mk', C', col', e1, e2, e3, e4⟩
  exact ⟨rfl, _, hP.fixed e4 e1 (fun h => by cases h) rfl e2 rfl ⟨fun h => (by cases h), fun _ => ⟨rfl, by omega⟩⟩⟩
theorem Off.of_out {w w' : World} {d : Desc} (o : Out 0 0 w w') : Off d w w' := ⟨o.1, o.2.1, o.2.2.1, o.size, fun k hk _ => o.block hk (.inr (Nat.zero_le _))⟩
theorem Pl.start {B : Nat} {w w1 w2 w3 : World} {da db : Desc} (hB : w.heap.size = B) (pa : PairK B w1 da) (oa : ∀ k, da.own k → w.heap.size ≤ k) (o1 : Out 0 0 w w1) (pb : PairK B w2 db) (ob : ∀ k, db.own k → w1.heap.size ≤ k) (o2 : Out 0 0 w1 w2) (o3 : Out 0 0 w2 w3) (ua : da.u = true) (ub : db.u = true) :
    ∃ D, Pl B w (w3.alloc (.cells #[.pointer (some ⟨da.b, 0, none⟩), .pointer (some ⟨db.b, 0, none⟩)] 22)) w3.heap.size da.b db.b 2 D 0 1 true := by
  have s1 := o1.size
  have s2 := o2.size
  have s3 := o3.size
  have o4 : Out 0 0 w3 (w3.alloc (.cells #[.pointer (some ⟨da.b, 0, none⟩), .pointer (some ⟨db.b, 0, none⟩)] 22)) := (Out.refl _ _ _).alloc _
  have qa : PairK B (w3.alloc (.cells #[.pointer (some ⟨da.b, 0, none⟩), .pointer (some ⟨db.b, 0, none⟩)] 22)) (da.cut w1.heap.size) := pa.off (Off.of_out ((o2.trans o3).trans o4))
  have qb : PairK B (w3.alloc (.cells #[.pointer (some ⟨da.b, 0, none⟩), .pointer (some ⟨db.b, 0, none⟩)] 22)) (db.cut w2.heap.size) := pb.off (Off.of_out (o3.trans o4))
  have ca : ∀ k, (da.cut w1.heap.size).own k → k < w1.heap.size := fun k h => (cut_own pa h).1
  have cb : ∀ k, (db.cut w2.heap.size).own k → k < w2.heap.size ∧ w1.heap.size ≤ k := fun k h => ⟨(cut_own pb h).1, ob k (cut_own pb h).2⟩
  refine ⟨fun j => if j = 0 then da.cut w1.heap.size else db.cut w2.heap.size, { hL := heap_alloc_new _ _, lo := by omega, n2 := Nat.le_refl _, h0 := by decide, h1 := by decide, a0 := rfl, a1 := rfl, pk := ?_, sep := ?_, nL := ?_, bel := ?_, hu := ?_ }⟩
  · intro j hj
    by_cases e : j = 0
    · simp only [e, if_true]; exact qa
    · simp only [e, if_false]; exact qb
  · intro i j hi hj hne k hk hx hy
    have hij : (i = 0 ∧ j = 1) ∨ (i = 1 ∧ j = 0) := by omega
    rcases hij with ⟨rfl, rfl⟩ | ⟨rfl, rfl⟩
    · have := ca k hx; have := (cb k hy).2; omega
    · have := ca k hy; have := (cb k hx).2; omega
  · intro j hj hx
    by_cases e : j = 0
    · simp only [e, if_true] at hx; have := ca _ hx; omega
    · simp only [e, if_false] at hx; have := (cb _ hx).1; omega
  · have := (((o1.trans o2).trans o3).trans o4).all
    rw [hB] at this
    exact this
  · intro _ j hj
    by_cases e : j = 0
    · simp only [e, if_true]; exact ua
    · simp only [e, if_false]; exact ub
theorem Pl.more {B : Nat} {w0 w w' : World} {L pa pb N i0 i1 : Nat} {D : Nat → Desc} {us : Bool} (h : Pl B w0 w L pa pb N D i0 i1 us) {d : Desc} {j0 j1 : Nat} (o : Out L (L + 1) w w') (hL : w'.heap[L]? = some (.cells #[.pointer (some ⟨(updD D w.heap.size N d j0).b, 0, none⟩), .pointer (some ⟨(updD D w.heap.size N d j1).b, 0, none⟩)] 22 (0, 0)))
    (hj0 : j0 < N + 1) (hj1 : j1 < N + 1) (hp : PairK B w' d) (hown : ∀ k, d.own k → w.heap.size ≤ k) (hu : us = true → d.u = true) : Pl B w0 w' L pa pb (N + 1) (updD D w.heap.size N d) j0 j1 us := by
  have n2 := h.n2
  have hLt := heap_lt h.hL
  have old : ∀ j, j < N → updD D w.heap.size N d j = (D j).cut w.heap.size := fun j hj => updD_other (by omega)
  have off : ∀ j, j < N → Off (D j) w w' := fun j hj => ⟨o.1, o.2.1, o.2.2.1, o.size, fun k hk ho => o.block hk (by have : k ≠ L := fun e => h.nL j hj (e ▸ ho); omega)⟩
  have ownc : ∀ j, j < N → ∀ k, (updD D w.heap.size N d j).own k → k < w.heap.size ∧ (D j).own k := fun j hj k ho => by
    rw [old j hj] at ho
    exact cut_own (h.pk j hj) ho
  have kind : ∀ j, j < N + 1 → j < N ∨ j = N := fun j hj => by omega
  refine { hL := hL, lo := h.lo, n2 := by omega, h0 := hj0, h1 := hj1, a0 := ?_, a1 := ?_, pk := ?_, sep := ?_, nL := ?_, bel := h.bel.trans (o.below h.lo (Nat.le_of_lt (Nat.lt_of_le_of_lt h.lo hLt))), hu := ?_ }
  · rw [old 0 (by omega)]; exact h.a0
  · rw [old 1 (by omega)]; exact h.a1
  · intro j hj
    rcases kind j hj with e | e
    · rw [old j e]; exact (h.pk j e).off (off j e)
    · rw [e, updD_self]; exact hp
  · intro i j hi hj hne k hk hx hy
    rcases kind i hi with ei | ei
    · have hx' := ownc i ei k hx
      rcases kind j hj with ej | ej
      · exact h.sep i j ei ej hne k hx'.1 hx'.2 (ownc j ej k hy).2
      · rw [ej, updD_self] at hy
        have := hown k hy
        omega
    · rw [ei, updD_self] at hx
      have := hown k hx
      rcases kind j hj with ej | ej
      · have := (ownc j ej k hy).1; omega
      · omega
  · intro j hj ho
    rcases kind j hj with e | e
    · exact h.nL j e (ownc j e L ho).2
    · rw [e, updD_self] at ho
      have := hown L ho
      omega
  · intro hus j hj
    rcases kind j hj with e | e
    · rw [old j e]; exact h.hu hus j e
    · rw [e, updD_self]; exact hu hus
theorem Pl.cells {B : Nat} {w0 w : World} {L pa pb N i0 i1 : Nat} {D : Nat → Desc} {us : Bool} (h : Pl B w0 w L pa pb N D i0 i1 us) : w.cell? ⟨L, 0, none⟩ = some (.pointer (some ⟨(D i0).b, 0, none⟩)) ∧ w.cell? ⟨L, 1, none⟩ = some (.pointer (some ⟨(D i1).b, 0, none⟩)) ∧ w.frozen? ⟨L, 0, none⟩ = false ∧ w.frozen? ⟨L, 1, none⟩ = false := by
  have hb := h.hL
  refine ⟨?_, ?_, ?_, ?_⟩ <;> simp [World.cell?, World.frozen?, hb]
theorem Pl.tab {B : Nat} {w0 w : World} {L pa pb N i0 i1 : Nat} {D : Nat → Desc} {us : Bool} (h : Pl B w0 w L pa pb N D i0 i1 us) (hT : Tab w0) (hB : 2 ≤ B) : Tab w := fun j hj => ⟨by
    rw [World.cell?_of_block (w := w0) (a := ⟨0, j, none⟩) (h.bel.block 0 (by omega))]; exact (hT j hj).1, by
    rw [World.cell?_of_block (w := w0) (a := ⟨1, j, none⟩) (h.bel.block 1 (by omega))]; exact (hT j hj).2⟩
/-! the script among the arguments -/
def StepAt (W : World) (b off : Nat) (q : Int × Int × Int) : Prop := W.cell? ⟨b, off, none⟩ = some (.int .i64 q.1) ∧ W.cell? ⟨b, off + 1, none⟩ = some (.int .i64 q.2.1) ∧ W.cell? ⟨b, off + 2, none⟩ = some (.int .i64 q.2.2) ∧ -9223372036854775808 ≤ q.2.2 ∧ q.2.2 ≤ 9223372036854775807
def Steps (W : World) (b off len : Nat) (q : Nat → Int × Int × Int) : Prop := ∀ i, i < len → StepAt W b (off + i * 3) (q i)
theorem below_cell {B : Nat} {w w' : World} (h : Below B w w') {b i : Nat} {v : Value} (hc : w.cell? ⟨b, i, none⟩ = some v) (hb : b < B) : w'.cell? ⟨b, i, none⟩ = some v := by
  rw [World.cell?_of_block (w := w) (a := ⟨b, i, none⟩) (h.block b hb)]
  exact hc
theorem Steps.kept {W W' : World} {b off len B : Nat} {q : Nat → Int × Int × Int} (h : Steps W b off len q) (hb : Below B W W') (hB : W.heap.size ≤ B) : Steps W' b off len q := by
  intro i hi
  obtain ⟨c0, c1, c2, r⟩ := h i hi
  have hl : b < B := Nat.lt_of_lt_of_le (cell_lt c0) hB
  exact ⟨below_cell hb c0 hl, below_cell hb c1 hl, below_cell hb c2 hl, r⟩
theorem bit01 (z : Int) : bits .and .i64 z 1 = 0 ∨ bits .and .i64 z 1 = 1 := by
  have e : bits .and .i64 z 1 = IntKind.wrap .i64 ((BitVec.ofInt 64 z &&& BitVec.ofInt 64 1).toNat : Nat) := rfl
  rw [e]
  have h : (BitVec.ofInt 64 z &&& BitVec.ofInt 64 1).toNat ≤ 1 := by
    rw [BitVec.toNat_and]
    exact Nat.le_trans Nat.and_le_right (by decide)
  generalize (BitVec.ofInt 64 z &&& BitVec.ofInt 64 1).toNat = m at *
  have : m = 0 ∨ m = 1 := by omega
  rcases this with rfl | rfl
  · exact .inl rfl
  · exact .inr rfl
end Go.Proofs.YtfkmaanfgkkjcaaDoor
