/- gone's closure -/
import Derived.Test.YtnkobcldagajeaaDoorLd
import Derived.Test.YtnkobcldagajeaaDoorRc
namespace Go.Proofs.YtnkobcldagajeaaDoor
open Go.RowKit
set_option linter.unusedVariables false
set_option linter.unusedSimpArgs false

/-- the variables of gone, behind the blocks of w0; the pair; the box g' of the All that is gone over -/
def GoneAt (w0 w : World) (lo hi p n : Nat) (S : Nat → Bool) (b r g l1 h1 l2 h2 g' : Nat) (want told stop at_ : Int) (o : Int × Int × Int × Int × Int) : Prop :=
  Box w w0.heap.size 23 (.pointer (some ⟨p, 0, none⟩)) ∧ Box w (w0.heap.size + 1) 3 (.int .i64 stop) ∧ Box w (w0.heap.size + 2) 3 (.int .i64 at_) ∧ OpAt w (w0.heap.size + 3) o ∧
    Box w (w0.heap.size + 4) 3 (.int .i64 want) ∧ Box w (w0.heap.size + 5) 3 (.int .i64 told) ∧ Box w (w0.heap.size + 6) 4 (.bool true) ∧ PairIn w lo hi p n S S b r g l1 h1 l2 h2 ∧ Out lo hi w0 w ∧ hi ≤ w0.heap.size ∧
    Box w g' 30 (.pointer (some ⟨b, 0, none⟩)) ∧ (g' = g ∨ (hi ≤ g' ∧ g' < w0.heap.size))
section
variable {w0 w w' : World} {lo hi p n : Nat} {S S' : Nat → Bool} {b r g l1 h1 l2 h2 g' : Nat} {want told stop at_ : Int} {o : Int × Int × Int × Int × Int}
theorem OpAt.kept {lo' hi' : Nat} {G : Nat} (h : OpAt w G o) (x : Out lo' hi' w w') (h2 : G < lo' ∨ hi' ≤ G) : OpAt w' G o := x.heap h h2
/-- one of the own blocks is written -/
theorem GoneAt.step (h : GoneAt w0 w lo hi p n S b r g l1 h1 l2 h2 g' want told stop at_ o) {k : Nat} (x : Out (w0.heap.size + k) (w0.heap.size + k + 1) w w') :
    PairIn w' lo hi p n S S b r g l1 h1 l2 h2 ∧ Out lo hi w0 w' ∧ Box w' g' 30 (.pointer (some ⟨b, 0, none⟩)) := by
  obtain ⟨a1, a2, a3, a4, a5, a6, a7, a8, a9, a10, a11, a12⟩ := h
  have hl := a8.lim
  have hg : g < hi := a8.2.2.2.2.2.2.2.2.2.1
  refine ⟨a8.kept x (.inl (by omega)) (.inl (by omega)), a9.past x (by omega), a11.kept x (.inl ?_)⟩
  rcases a12 with e | e <;> omega
theorem GoneAt.putWant (h : GoneAt w0 w lo hi p n S b r g l1 h1 l2 h2 g' want told stop at_ o) (v : Int) : GoneAt w0 (w.setCell ⟨w0.heap.size + 4, 0, none⟩ (.int .i64 v)) lo hi p n S b r g l1 h1 l2 h2 g' v told stop at_ o := by
  have x : Out (w0.heap.size + 4) (w0.heap.size + 4 + 1) w (w.setCell ⟨w0.heap.size + 4, 0, none⟩ (.int .i64 v)) := (Out.refl _ _ _).setCell (.inl ⟨Nat.le_refl _, Nat.lt_succ_self _⟩) _
  obtain ⟨y1, y2, y3⟩ := h.step x
  obtain ⟨a1, a2, a3, a4, a5, a6, a7, a8, a9, a10, a11, a12⟩ := h
  exact ⟨a1.kept x (.inl (by omega)), a2.kept x (.inl (by omega)), a3.kept x (.inl (by omega)), a4.kept x (.inl (by omega)), a5.set _, a6.kept x (.inr (by omega)), a7.kept x (.inr (by omega)), y1, y2, a10, y3, a12⟩
theorem GoneAt.putTold (h : GoneAt w0 w lo hi p n S b r g l1 h1 l2 h2 g' want told stop at_ o) (v : Int) : GoneAt w0 (w.setCell ⟨w0.heap.size + 5, 0, none⟩ (.int .i64 v)) lo hi p n S b r g l1 h1 l2 h2 g' want v stop at_ o := by
  have x : Out (w0.heap.size + 5) (w0.heap.size + 5 + 1) w (w.setCell ⟨w0.heap.size + 5, 0, none⟩ (.int .i64 v)) := (Out.refl _ _ _).setCell (.inl ⟨Nat.le_refl _, Nat.lt_succ_self _⟩) _
  obtain ⟨y1, y2, y3⟩ := h.step x
  obtain ⟨a1, a2, a3, a4, a5, a6, a7, a8, a9, a10, a11, a12⟩ := h
  exact ⟨a1.kept x (.inl (by omega)), a2.kept x (.inl (by omega)), a3.kept x (.inl (by omega)), a4.kept x (.inl (by omega)), a5.kept x (.inl (by omega)), a6.set _, a7.kept x (.inr (by omega)), y1, y2, a10, y3, a12⟩
theorem GoneAt.putGood (h : GoneAt w0 w lo hi p n S b r g l1 h1 l2 h2 g' want told stop at_ o) : GoneAt w0 (w.setCell ⟨w0.heap.size + 6, 0, none⟩ (.bool true)) lo hi p n S b r g l1 h1 l2 h2 g' want told stop at_ o := by
  have x : Out (w0.heap.size + 6) (w0.heap.size + 6 + 1) w (w.setCell ⟨w0.heap.size + 6, 0, none⟩ (.bool true)) := (Out.refl _ _ _).setCell (.inl ⟨Nat.le_refl _, Nat.lt_succ_self _⟩) _
  obtain ⟨y1, y2, y3⟩ := h.step x
  obtain ⟨a1, a2, a3, a4, a5, a6, a7, a8, a9, a10, a11, a12⟩ := h
  exact ⟨a1.kept x (.inl (by omega)), a2.kept x (.inl (by omega)), a3.kept x (.inl (by omega)), a4.kept x (.inl (by omega)), a5.kept x (.inl (by omega)), a6.kept x (.inl (by omega)), a7.set _, y1, y2, a10, y3, a12⟩
/-- the pair has turned -/
theorem GoneAt.turn (h : GoneAt w0 w lo hi p n S b r g l1 h1 l2 h2 g' want told stop at_ o) (hp : PairIn w' lo hi p n S' S' b r g l1 h1 l2 h2) (x : Out lo hi w w') : GoneAt w0 w' lo hi p n S' b r g l1 h1 l2 h2 g' want told stop at_ o := by
  obtain ⟨a1, a2, a3, a4, a5, a6, a7, a8, a9, a10, a11, a12⟩ := h
  refine ⟨a1.kept x (.inr a10), a2.kept x (.inr (by omega)), a3.kept x (.inr (by omega)), a4.kept x (.inr (by omega)), a5.kept x (.inr (by omega)), a6.kept x (.inr (by omega)), a7.kept x (.inr (by omega)), hp, a9.trans x, a10, ?_, a12⟩
  rcases a12 with e | e
  · rw [e]; exact hp.box
  · exact a11.kept x (.inr e.1)
theorem GoneAt.quiet (h : GoneAt w0 w lo hi p n S b r g l1 h1 l2 h2 g' want told stop at_ o) (x : Out 0 0 w w') : GoneAt w0 w' lo hi p n S b r g l1 h1 l2 h2 g' want told stop at_ o := h.turn (h.2.2.2.2.2.2.2.1.quiet x) (x.any _ _)
theorem GoneAt.pair (h : GoneAt w0 w lo hi p n S b r g l1 h1 l2 h2 g' want told stop at_ o) : PairIn w lo hi p n S S b r g l1 h1 l2 h2 := h.2.2.2.2.2.2.2.1
theorem GoneAt.cells (h : GoneAt w0 w lo hi p n S b r g l1 h1 l2 h2 g' want told stop at_ o) :
    w.cell? ⟨w0.heap.size, 0, none⟩ = some (.pointer (some ⟨p, 0, none⟩)) ∧ w.cell? ⟨w0.heap.size + 1, 0, none⟩ = some (.int .i64 stop) ∧ w.cell? ⟨w0.heap.size + 2, 0, none⟩ = some (.int .i64 at_) ∧ w.cell? ⟨w0.heap.size + 4, 0, none⟩ = some (.int .i64 want) ∧
      w.cell? ⟨w0.heap.size + 5, 0, none⟩ = some (.int .i64 told) ∧ w.cell? ⟨w0.heap.size + 6, 0, none⟩ = some (.bool true) ∧ w.frozen? ⟨w0.heap.size + 4, 0, none⟩ = false ∧ w.frozen? ⟨w0.heap.size + 5, 0, none⟩ = false ∧ w.frozen? ⟨w0.heap.size + 6, 0, none⟩ = false ∧ w.cell? ⟨p, 1, none⟩ = some (.pointer (some ⟨r, 0, none⟩)) := by
  obtain ⟨a1, a2, a3, a4, a5, a6, a7, a8, a9, a10, a11, a12⟩ := h
  exact ⟨a1.cell, a2.cell, a3.cell, a5.cell, a6.cell, a7.cell, a5.frozen, a6.frozen, a7.frozen, a8.cells.2.1⟩
end
/-- what is in behind the told-th number -/
def goneS (S : Nat → Bool) (n : Nat) (told at_ : Int) (o : Int × Int × Int × Int × Int) : Nat → Bool := if told + 1 = at_ then stepS S n o else S
set_option maxRecDepth 100000 in
set_option maxHeartbeats 4000000 in
theorem gone1_any {w0 w : World} {lo hi p n : Nat} {S : Nat → Bool} {b r g l1 h1 l2 h2 g' : Nat} {i told stop at_ : Int} {z kd x y c : Int} (h : GoneAt w0 w lo hi p n S b r g l1 h1 l2 h2 g' i told stop at_ (z, kd, x, y, c))
    (i0 : 0 ≤ i) (i1 : i < n) (hst : stop < 0 ∨ told < stop) (t0 : 0 ≤ told) (t1 : told ≤ n) :
    Calls Tryd.prog 52 #[.int .i64 i, .pointer (some ⟨w0.heap.size + 6, 0, none⟩), .pointer (some ⟨w0.heap.size + 4, 0, none⟩), .pointer (some ⟨w0.heap.size + 1, 0, none⟩), .pointer (some ⟨w0.heap.size + 5, 0, none⟩), .pointer (some ⟨w0.heap.size + 2, 0, none⟩), .pointer (some ⟨w0.heap.size, 0, none⟩), .pointer (some ⟨w0.heap.size + 3, 0, none⟩)] w
      fun e w' => e = .returned (.bool (decide (stop < 0) || decide (told + 1 < stop))) ∧ GoneAt w0 w' lo hi p n (goneS S n told at_ (z, kd, x, y, c)) b r g l1 h1 l2 h2 g' (nxr (goneS S n told at_ (z, kd, x, y, c)) n (i + 1).toNat) (told + 1) stop at_ (z, kd, x, y, c) := by
  have hlim := h.pair.lim
  have HG := hid_mk h
  obtain ⟨B, hB⟩ : ∃ B, w0.heap.size = B := ⟨_, rfl⟩
  obtain ⟨c1, c2, c3, c4, c5, c6, c7, c8, c9, c10⟩ := h.cells
  obtain ⟨q1, q2, q3, q4, q5⟩ := h.2.2.2.1.cells
  simp only at q1 q2 q3 q4 q5
  have hp6 : p ≠ w0.heap.size + 6 ∧ p ≠ w0.heap.size + 5 ∧ p ≠ w0.heap.size + 4 := by have := h.2.2.2.2.2.2.2.2.2.1; omega
  obtain ⟨p6, p5, p4⟩ := hp6
  obtain ⟨k1, m1, m2⟩ : ∃ k1 : Int, i < 64 * k1 ∧ k1 ≤ 4096 := ⟨4096, by omega, by omega⟩
  obtain ⟨k2, m3, m4⟩ : ∃ k1 : Int, told < 64 * k1 ∧ k1 ≤ 4097 := ⟨4097, by omega, by omega⟩
  have hii : (i != i) = false := by simp
  clear h hlim t1 i1 hB B
  unfold goneS
  by_cases hat : told + 1 = at_
  · rw [if_pos hat]
    have hat' : (told + 1 == at_) = true := by rw [beq_iff_eq]; exact hat
    clear hat
    have HT := hid_mk (HG.out.putTold (told + 1))
    have hU := turned_any HT.out.pair (z, kd, x, y, c)
    generalize stepS S n (z, kd, x, y, c) = S2 at *
    unfold opV at hU
    simp only at hU
    have HU := hid_mk hU
    clear hU
    rcases hst with hs | hs
    · have e1 : decide (stop < 0) = true := by simpa using hs
      rw [e1, Bool.true_or]
      clear e1
      go_enter Tryd.func52, Tryd.ntmps52
      go_wp2_with fail
      refine HU.out.mono ?_
      rintro e w6 ⟨rfl, hp6', ho6⟩
      have HV : Hid (GoneAt w0 w6 lo hi p n S2 b r g l1 h1 l2 h2 g' i (told + 1) stop at_ (z, kd, x, y, c)) := HT.out.turn hp6' ho6
      clear hp6' ho6 c1 c2 c3 c4 c5 c6 c7 c8 c9 c10 q1 q2 q3 q4 q5 HU
      obtain ⟨c1, c2, c3, c4, c5, c6, c7, c8, c9, c10⟩ := HV.out.cells
      have HX := hid_mk (refNext_any HV.out.putGood.pair.ref (i + 1))
      go_wp2_with (go_at_call 41; refine calls_same HX.out ?_)
      go_ret
      exact ⟨rfl, HV.out.putGood.putWant _⟩
    · have hs1 : 0 ≤ stop := by omega
      go_enter Tryd.func52, Tryd.ntmps52
      go_wp2_with fail
      refine HU.out.mono ?_
      rintro e w6 ⟨rfl, hp6', ho6⟩
      have HV : Hid (GoneAt w0 w6 lo hi p n S2 b r g l1 h1 l2 h2 g' i (told + 1) stop at_ (z, kd, x, y, c)) := HT.out.turn hp6' ho6
      clear hp6' ho6 c1 c2 c3 c4 c5 c6 c7 c8 c9 c10 q1 q2 q3 q4 q5 HU
      obtain ⟨c1, c2, c3, c4, c5, c6, c7, c8, c9, c10⟩ := HV.out.cells
      have HX := hid_mk (refNext_any HV.out.putGood.pair.ref (i + 1))
      go_wp2_with (go_at_call 41; refine calls_same HX.out ?_)
      go_ret
      exact ⟨rfl, HV.out.putGood.putWant _⟩
  · rw [if_neg hat]
    have hat' : (told + 1 == at_) = false := by rw [beq_eq_false_iff_ne]; exact hat
    clear hat
    have HT := hid_mk (HG.out.putTold (told + 1))
    have HX := hid_mk (refNext_any HT.out.pair.ref (i + 1))
    rcases hst with hs | hs
    · have e1 : decide (stop < 0) = true := by simpa using hs
      rw [e1, Bool.true_or]
      clear e1
      go_enter Tryd.func52, Tryd.ntmps52
      go_wp2_with (go_at_call 41; refine calls_same HX.out ?_)
      go_ret
      exact ⟨rfl, HT.out.putWant _⟩
    · have hs1 : 0 ≤ stop := by omega
      go_enter Tryd.func52, Tryd.ntmps52
      go_wp2_with (go_at_call 41; refine calls_same HX.out ?_)
      go_ret
      exact ⟨rfl, HT.out.putWant _⟩
end Go.Proofs.YtnkobcldagajeaaDoor
