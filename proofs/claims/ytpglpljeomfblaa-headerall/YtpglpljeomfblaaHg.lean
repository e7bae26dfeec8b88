/- a whole script -/
import Derived.Test.YtpglpljeomfblaaHc
import Derived.Lib.SmallJoins
import Derived.Deep.RegionHeld3
import Derived.Deep.Strs
import Derived.Carry
namespace Go.Proofs.Ytpglpljeomfblaa
open Go.ChangeShapes Go.WideShapes Go.ChangeAt Go.RowKit Go.Deep
set_option linter.unusedVariables false
set_option linter.unusedSimpArgs false

def AskAt (W : World) (b off : Nat) (q : Int × Int × Int × Int) : Prop := W.cell? ⟨b, off, none⟩ = some (.int .i64 q.1) ∧ W.cell? ⟨b, off + 1, none⟩ = some (.int .i64 q.2.1) ∧ W.cell? ⟨b, off + 2, none⟩ = some (.int .i64 q.2.2.1) ∧ W.cell? ⟨b, off + 3, none⟩ = some (.int .i64 q.2.2.2) ∧
  q.2.2.1 ≤ 9223372036854775807
def Asks (W : World) (b off len : Nat) (q : Nat → Int × Int × Int × Int) : Prop := ∀ i, i < len → AskAt W b (off + i * 4) (q i)
theorem cell_lt {W : World} {b off : Nat} {v : Value} (h : W.cell? ⟨b, off, none⟩ = some v) : b < W.heap.size := by
  by_cases hb : b < W.heap.size
  · exact hb
  · have : W.heap[b]? = none := by simp; omega
    simp [World.cell?, this] at h
theorem below_two {B : Nat} {a b c : World} (h : Below B a b) (k : Below b.heap.size b c) (hB : B ≤ b.heap.size) : Below B a c := h.trans (k.mono hB)
theorem Asks.kept {W W' : World} {b off len : Nat} {q : Nat → Int × Int × Int × Int} (h : Asks W b off len q) (hb : Below W.heap.size W W') : Asks W' b off len q := by
  intro i hi
  obtain ⟨c0, c1, c2, c3, r⟩ := h i hi
  have hl := cell_lt c0
  refine ⟨?_, ?_, ?_, ?_, r⟩
  · rw [hb.cell (p := ⟨b, off + i * 4, none⟩) hl]; exact c0
  · rw [hb.cell (p := ⟨b, off + i * 4 + 1, none⟩) hl]; exact c1
  · rw [hb.cell (p := ⟨b, off + i * 4 + 2, none⟩) hl]; exact c2
  · rw [hb.cell (p := ⟨b, off + i * 4 + 3, none⟩) hl]; exact c3
theorem ask_cells {W : World} {g : Nat} {k n a b : Int} (h : W.heap[g]? = some (.cells #[.int .i64 k, .int .i64 n, .int .i64 a, .int .i64 b] 30 (0, 0))) :
    W.cell? ⟨g, 0, none⟩ = some (.int .i64 k) ∧ W.cell? ⟨g, 1, none⟩ = some (.int .i64 n) ∧ W.cell? ⟨g, 2, none⟩ = some (.int .i64 a) ∧ W.cell? ⟨g, 3, none⟩ = some (.int .i64 b) := by
  simp [World.cell?, h]
theorem ask_kept {W W' : World} {g : Nat} {o : Obj} (h : W.heap[g]? = some o) (hb : Below W.heap.size W W') : W'.heap[g]? = some o := by
  rw [← h]; exact hb.block g (Array.getElem?_eq_some_iff.1 h).1
set_option maxHeartbeats 2000000 in
theorem asked_any (k a b c : Int) (w : World) (i2 : b ≤ 9223372036854775807) :
    Calls Try.prog 13 #[.agg #[.int .i64 k, .int .i64 a, .int .i64 b, .int .i64 c]] w fun e w' => e = .returned (.bool true) ∧ Below w.heap.size w w' := by
  have h0 : Below w.heap.size w (w.alloc (.cells #[.int .i64 k, .int .i64 a, .int .i64 b, .int .i64 c] 30)) := (Below.refl _ _).alloc (Nat.le_refl _) _
  have hA := heap_alloc_new w (.cells #[.int .i64 k, .int .i64 a, .int .i64 b, .int .i64 c] 30)
  have HI := hid_mk i2
  clear i2
  by_cases k0 : k = 0
  · subst k0
    obtain ⟨x0, x1, x2, x3⟩ := ask_cells hA
    go_enter Try.func13, Try.ntmps13
    go_wp2_with (go_at_call 3; refine calls_same (makes_any _ _ _ _) ?_)
    go_ret
    exact ⟨rfl, h0⟩
  by_cases k1 : k = 1
  · subst k1
    obtain ⟨x0, x1, x2, x3⟩ := ask_cells hA
    go_enter Try.func13, Try.ntmps13
    go_wp2_with (go_at_call 12; refine calls_same (lawRead_any _ _ _ HI.out) ?_)
    go_ret
    exact ⟨rfl, h0⟩
  by_cases k2 : k = 2
  · subst k2
    obtain ⟨x0, x1, x2, x3⟩ := ask_cells hA
    have M := hid_mk (make_any a b c)
    have HM := hid_mk (make_range a b c).2
    generalize makeV a b c = m at *
    go_enter Try.func13, Try.ntmps13
    go_wp2_with fail
    go_region_held3 (fun w' => w'.cell? ⟨w.heap.size, 1, none⟩ = some (.int .i64 a) ∧ w'.cell? ⟨w.heap.size, 2, none⟩ = some (.int .i64 b) ∧ w'.cell? ⟨w.heap.size, 3, none⟩ = some (.int .i64 c) ∧ Below w.heap.size w w') (refine ⟨?_, ?_, ?_, ?_⟩ <;> first | assumption | (apply Below.drew; assumption))
      (first | (go_at_call 10; refine calls_same (M.out _) ?_) | (go_at_call 12; refine calls_same (lawRead_any _ _ _ HM.out) ?_))
    all_goals go_wp2
    all_goals go_ret
    all_goals exact ⟨rfl, by apply Below.drew; assumption⟩
  obtain ⟨x0, x1, x2, x3⟩ := ask_cells hA
  have e0 : (k == 0) = false := by simpa using k0
  have e1 : (k == 1) = false := by simpa using k1
  have e2 : (k == 2) = false := by simpa using k2
  go_enter Try.func13, Try.ntmps13
  go_wp2
  go_ret
  exact ⟨rfl, h0⟩
set_option maxHeartbeats 2000000 in
theorem all_some (w : World) (b off len cap : Nat) (q : Nat → Int × Int × Int × Int) (h : Asks w b off len q) (hlen : len ≤ 5000) (h0 : 0 < len) :
    Calls Try.prog 5 #[.slice (some ⟨b, off, none⟩) len cap] w fun e w' => e = .returned (.bool true) ∧ Below w.heap.size w w' := by
  have H := hid_mk h
  clear h
  have hB := Below.refl w.heap.size w
  go_enter Try.func5, Try.ntmps5
  go_wp2_with (go_at_call 9; refine calls_same (alive_any _) ?_)
  go_loopw [3, 4] (fun ok i wr => ∃ k : Nat, k ≤ len ∧ i = .int .i64 k ∧ ok = .bool true ∧ Below w.heap.size w wr) (fun _ i _ => len - (intOf i).toNat)
  case atStart => exact ⟨0, by omega, by simp, rfl, hB⟩
  case round =>
    clear hB
    obtain ⟨k, hk, rfl, rfl, hB⟩ := hrel
    by_cases hkl : k < len
    · obtain ⟨c0, c1, c2, c3, r⟩ := H.out.kept hB k hkl
      generalize (q k).1 = z0 at *
      generalize (q k).2.1 = z1 at *
      generalize (q k).2.2.1 = z2 at *
      generalize (q k).2.2.2 = z3 at *
      have HR := hid_mk r
      clear r
      go_wp2_with fail
      refine (asked_any _ _ _ _ _ HR.out).mono ?_
      rintro e w2 ⟨rfl, hb2⟩
      have hB2 := below_two hB hb2 hB.size
      clear hB hb2 c0 c1 c2 c3 HR
      have hq := H.out.kept hB2 0 h0
      rw [Nat.zero_mul, Nat.add_zero] at hq
      obtain ⟨c0, c1, c2, c3, r⟩ := hq
      generalize (q 0).1 = y0 at *
      generalize (q 0).2.1 = y1 at *
      generalize (q 0).2.2.1 = y2 at *
      generalize (q 0).2.2.2 = y3 at *
      have HR := hid_mk r
      clear r
      go_wp2_with fail
      refine (asked_any _ _ _ _ _ HR.out).mono ?_
      rintro e w3 ⟨rfl, hb3⟩
      have hB3 := below_two hB2 hb3 hB2.size
      clear hB2 hb3 c0 c1 c2 c3 HR
      go_wp2
      go_roundw
      case rel => exact ⟨k + 1, by omega, by simp, rfl, hB3⟩
      case measure => simp [intOf]; omega
    · have : k = len := by omega
      subst this
      go_wp2
      go_ret
      exact ⟨rfl, hB⟩
set_option maxHeartbeats 2000000 in
theorem all_none (x : Option Addr) (cap : Nat) (w : World) :
    Calls Try.prog 5 #[.slice x 0 cap] w fun e w' => e = .returned (.bool true) ∧ Below w.heap.size w w' := by
  have hB := Below.refl w.heap.size w
  go_enter Try.func5, Try.ntmps5
  go_wp2_with (go_at_call 9; refine calls_same (alive_any _) ?_)
  go_loopw [3, 4] (fun ok i wr => i = .int .i64 0 ∧ ok = .bool true ∧ Below w.heap.size w wr) (fun _ _ _ => 0)
  case atStart => exact ⟨rfl, rfl, hB⟩
  case round =>
    clear hB
    obtain ⟨rfl, rfl, hB⟩ := hrel
    go_wp2
    go_ret
    exact ⟨rfl, hB⟩
theorem all_long (x : Option Addr) (len cap : Nat) (w : World) (h : 5000 < len) :
    Calls Try.prog 5 #[.slice x len cap] w fun e w' => e = .returned (.bool true) ∧ Below w.heap.size w w' := by
  have hB := Below.refl w.heap.size w
  go_enter Try.func5, Try.ntmps5
  go_wp2
  go_ret
  exact ⟨rfl, hB⟩

theorem laid_out : laidOutB Try.prog = true := by kernel_rfl
theorem cells_ask : Try.prog.cellsOf 30 = 4 := by kernel_rfl
theorem cells_int : Try.prog.cellsOf 3 = 1 := by kernel_rfl
theorem open_asks {H : Type} {enc : TypeId × Value → H} {W : World} {fuel : Nat} {cs : List Value} {x : DataW H × List MemPlace} (h : DataW.trod enc Try.prog W 0 (fun _ => true) true fuel 27 cs = some x) :
    cs = [.slice none 0 0] ∨ ∃ (a : Addr) (len cap : Nat), cs = [.slice (some a) len cap] ∧ (0 < len → ∃ b off q, a = ⟨b, off, none⟩ ∧ Asks W b off len q) := by
  rcases open_slice Try.underlying27 h with h0 | ⟨a, len, cap, m, n, D, Pl, rfl, hb, hl, hm, hmm, rfl, hx⟩
  · exact .inl h0.1
  right
  refine ⟨a, len, cap, rfl, fun hpos => ?_⟩
  simp only [if_true] at hmm
  subst hmm
  have each : ∀ i, i < len → ∃ q : Int × Int × Int × Int, W.cell? (a.add (i * 4)) = some (.int .i64 q.1) ∧ W.cell? (a.add (i * 4 + 1)) = some (.int .i64 q.2.1) ∧ W.cell? (a.add (i * 4 + 2)) = some (.int .i64 q.2.2.1) ∧ W.cell? (a.add (i * 4 + 3)) = some (.int .i64 q.2.2.2) ∧
      q.2.2.1 ≤ 9223372036854775807 := by
    intro i hi
    obtain ⟨cs', h1, h2⟩ := hx i (by omega)
    rw [cells_ask] at h1
    obtain ⟨_, hlen, hcell⟩ := World.cells?_some h1
    obtain ⟨y0, y1, y2, y3, n', hxy, hl4, g0, g1, g2, g3⟩ := Joins.trod_struct4 Try.underlying30 h2
    match cs', hlen with
    | [v0, v1, v2, v3], _ =>
      simp [cells_int] at g0 g1 g2 g3
      obtain ⟨z0, e0, _, w0⟩ := DataW.trod_int Try.underlying3 g0
      obtain ⟨z1, e1, _, w1⟩ := DataW.trod_int Try.underlying3 g1
      obtain ⟨z2, e2, _, w2⟩ := DataW.trod_int Try.underlying3 g2
      obtain ⟨z3, e3, _, w3⟩ := DataW.trod_int Try.underlying3 g3
      simp only [List.cons.injEq, and_true] at e0 e1 e2 e3
      have f0 := hcell 0 (by omega)
      have f1 := hcell 1 (by omega)
      have f2 := hcell 2 (by omega)
      have f3 := hcell 3 (by omega)
      rw [add_add] at f0 f1 f2 f3
      obtain ⟨r1, r2⟩ := i64_bounds w2
      exact ⟨(z0, z1, z2, z3), by simpa [e0] using f0, by simpa [e1] using f1, by simpa [e2] using f2, by simpa [e3] using f3, r2⟩
  obtain ⟨q, hq⟩ := choose_lt each
  obtain ⟨b, off, spot⟩ := a
  have hspot : spot = none := by
    have := (hq 0 hpos).1
    simpa [Addr.add] using World.cell?_spot this
  subst hspot
  refine ⟨b, off, q, rfl, fun i hi => ?_⟩
  obtain ⟨c0, c1, c2, c3, r⟩ := hq i hi
  rw [add_plain] at c0 c1 c2 c3
  exact ⟨c0, by rw [Nat.add_assoc]; exact c1, by rw [Nat.add_assoc]; exact c2, by rw [Nat.add_assoc]; exact c3, r⟩
end Go.Proofs.Ytpglpljeomfblaa
