/- hash: an Ask among the arguments, a whole script -/
import Derived.Test.YtjboogfbdgbfbaaOe
import Derived.Lib.SmallJoins
import Derived.Deep.Strs
import Derived.Carry
namespace Go.Proofs.Ytjboogfbdgbfbaa
open Go.ChangeShapes Go.WideShapes Go.ChangeAt Go.RowKit Go.Deep Go.Joins
set_option linter.unusedVariables false
set_option linter.unusedSimpArgs false

theorem cells_ask : Try.prog.cellsOf 25 = 6 := by kernel_rfl
theorem cells_int : Try.prog.cellsOf 3 = 1 := by kernel_rfl
theorem cells_val : Try.prog.cellsOf 23 = 2 := by kernel_rfl
theorem laid_out : laidOutB Try.prog = true := by kernel_rfl
theorem array6 {α : Type} {cs : Array α} (h : cs.size = 6) : ∃ c0 c1 c2 c3 c4 c5, cs = #[c0, c1, c2, c3, c4, c5] := by
  obtain ⟨l⟩ := cs
  match l, h with
  | [c0, c1, c2, c3, c4, c5], _ => exact ⟨c0, c1, c2, c3, c4, c5, rfl⟩
theorem trod_val {H : Type} {enc : TypeId × Value → H} {W : World} {sp : Nat → Bool} {fuel : Nat} {v0 v1 : Value} {x : DataW H × List MemPlace} (h : DataW.trod enc Try.prog W 0 sp true fuel 23 [v0, v1] = some x) :
    ∃ k n : Int, v0 = .int .i64 k ∧ v1 = .int .i64 n := by
  obtain ⟨y0, y1, n', hxy, hl2, g0, g1⟩ := trod_struct2 Try.underlying23 h
  simp [cells_int] at g0 g1
  obtain ⟨z0, e0, _, w0⟩ := DataW.trod_int Try.underlying3 g0
  obtain ⟨z1, e1, _, w1⟩ := DataW.trod_int Try.underlying3 g1
  simp only [List.cons.injEq, and_true] at e0 e1
  exact ⟨z0, z1, e0, e1⟩
theorem trod_struct5 {H : Type} {enc : TypeId × Value → H} {P : Program} {w : World} {base : Nat} {spare : Nat → Bool} {held : Bool} {t : TypeId} {f0 f1 f2 f3 f4 : Field} {fuel : Nat} {cs : List Value} {x : DataW H × List MemPlace} (ht : P.underlying t = some (.struct #[f0, f1, f2, f3, f4])) (h : DataW.trod enc P w base spare held fuel t cs = some x) :
    ∃ y0 y1 y2 y3 y4 n, DataW.trod enc P w base spare held n f0.type ((cs.drop f0.offset).take (P.cellsOf f0.type)) = some y0 ∧
      DataW.trod enc P w base spare held n f1.type ((cs.drop f1.offset).take (P.cellsOf f1.type)) = some y1 ∧ DataW.trod enc P w base spare held n f2.type ((cs.drop f2.offset).take (P.cellsOf f2.type)) = some y2 ∧
      DataW.trod enc P w base spare held n f3.type ((cs.drop f3.offset).take (P.cellsOf f3.type)) = some y3 ∧ DataW.trod enc P w base spare held n f4.type ((cs.drop f4.offset).take (P.cellsOf f4.type)) = some y4 := by
  obtain ⟨xs, n, _, rfl, hl, hlen, hf⟩ := DataW.trod_struct ht h
  match xs, hlen with
  | [y0, y1, y2, y3, y4], _ => exact ⟨y0, y1, y2, y3, y4, n, by simpa using hf 0 f0 rfl, by simpa using hf 1 f1 rfl, by simpa using hf 2 f2 rfl, by simpa using hf 3 f3 rfl, by simpa using hf 4 f4 rfl⟩
theorem trod_ask {H : Type} {enc : TypeId × Value → H} {W : World} {sp : Nat → Bool} {fuel : Nat} {v0 v1 v2 v3 v4 v5 : Value} {x : DataW H × List MemPlace} (h : DataW.trod enc Try.prog W 0 sp true fuel 25 [v0, v1, v2, v3, v4, v5] = some x) :
    ∃ z0 z1 z2 z3 z4 z5 : Int, v0 = .int .i64 z0 ∧ v1 = .int .i64 z1 ∧ v2 = .int .i64 z2 ∧ v3 = .int .i64 z3 ∧ v4 = .int .i64 z4 ∧ v5 = .int .i64 z5 := by
  obtain ⟨y0, y1, y2, y3, y4, n', g0, g1, g2, g3, g4⟩ := trod_struct5 Try.underlying25 h
  simp [cells_int, cells_val] at g0 g1 g2 g3 g4
  obtain ⟨z0, z1, e0, e1⟩ := trod_val g0
  obtain ⟨z2, e2, _, w2⟩ := DataW.trod_int Try.underlying3 g1
  obtain ⟨z3, e3, _, w3⟩ := DataW.trod_int Try.underlying3 g2
  obtain ⟨z4, e4, _, w4⟩ := DataW.trod_int Try.underlying3 g3
  obtain ⟨z5, e5, _, w5⟩ := DataW.trod_int Try.underlying3 g4
  simp only [List.cons.injEq, and_true] at e2 e3 e4 e5
  exact ⟨z0, z1, z2, z3, z4, z5, e0, e1, e2, e3, e4, e5⟩
theorem open_ask {H : Type} {enc : TypeId × Value → H} {W : World} {sp : Nat → Bool} {r : Reach} {b0 : Nat} {v : Value} {d : DataW H} {p : List MemPlace} (hv : Value.okWide Try.prog W r b0 25 v)
    (h : DataW.Trod enc Try.prog W 0 sp true 25 v d p) : ∃ z0 z1 z2 z3 z4 z5 : Int, v = .agg #[.int .i64 z0, .int .i64 z1, .int .i64 z2, .int .i64 z3, .int .i64 z4, .int .i64 z5] := by
  obtain ⟨cs, rfl, hsz⟩ := okWide_struct Try.underlying25 hv
  obtain ⟨c0, c1, c2, c3, c4, c5, rfl⟩ := array6 (hsz.trans cells_ask)
  obtain ⟨fuel, hf⟩ := h
  obtain ⟨z0, z1, z2, z3, z4, z5, rfl, rfl, rfl, rfl, rfl, rfl⟩ := trod_ask (by simpa [Value.cells] using hf)
  exact ⟨z0, z1, z2, z3, z4, z5, rfl⟩

def AskAt (W : World) (b off : Nat) (q : Int × Int × Int × Int × Int × Int) : Prop := W.cell? ⟨b, off, none⟩ = some (.int .i64 q.1) ∧ W.cell? ⟨b, off + 1, none⟩ = some (.int .i64 q.2.1) ∧ W.cell? ⟨b, off + 2, none⟩ = some (.int .i64 q.2.2.1) ∧ W.cell? ⟨b, off + 3, none⟩ = some (.int .i64 q.2.2.2.1) ∧
  W.cell? ⟨b, off + 4, none⟩ = some (.int .i64 q.2.2.2.2.1) ∧ W.cell? ⟨b, off + 5, none⟩ = some (.int .i64 q.2.2.2.2.2)
def Asks (W : World) (b off len : Nat) (q : Nat → Int × Int × Int × Int × Int × Int) : Prop := ∀ i, i < len → AskAt W b (off + i * 6) (q i)
theorem cell_lt {W : World} {b off : Nat} {v : Value} (h : W.cell? ⟨b, off, none⟩ = some v) : b < W.heap.size := by
  by_cases hb : b < W.heap.size
  · exact hb
  · have : W.heap[b]? = none := by simp; omega
    simp [World.cell?, this] at h
theorem AskAt.kept {W W' : World} {b off : Nat} {q : Int × Int × Int × Int × Int × Int} (h : AskAt W b off q) (hb : Below W.heap.size W W') : AskAt W' b off q := by
  obtain ⟨c0, c1, c2, c3, c4, c5⟩ := h
  have hl := cell_lt c0
  refine ⟨?_, ?_, ?_, ?_, ?_, ?_⟩
  · rw [hb.cell (p := ⟨b, off, none⟩) hl]; exact c0
  · rw [hb.cell (p := ⟨b, off + 1, none⟩) hl]; exact c1
  · rw [hb.cell (p := ⟨b, off + 2, none⟩) hl]; exact c2
  · rw [hb.cell (p := ⟨b, off + 3, none⟩) hl]; exact c3
  · rw [hb.cell (p := ⟨b, off + 4, none⟩) hl]; exact c4
  · rw [hb.cell (p := ⟨b, off + 5, none⟩) hl]; exact c5
theorem Asks.kept {W W' : World} {b off len : Nat} {q : Nat → Int × Int × Int × Int × Int × Int} (h : Asks W b off len q) (hb : Below W.heap.size W W') : Asks W' b off len q := by
  intro i hi
  obtain ⟨c0, c1, c2, c3, c4, c5⟩ := h i hi
  have hl := cell_lt c0
  refine ⟨?_, ?_, ?_, ?_, ?_, ?_⟩
  · rw [hb.cell (p := ⟨b, off + i * 6, none⟩) hl]; exact c0
  · rw [hb.cell (p := ⟨b, off + i * 6 + 1, none⟩) hl]; exact c1
  · rw [hb.cell (p := ⟨b, off + i * 6 + 2, none⟩) hl]; exact c2
  · rw [hb.cell (p := ⟨b, off + i * 6 + 3, none⟩) hl]; exact c3
  · rw [hb.cell (p := ⟨b, off + i * 6 + 4, none⟩) hl]; exact c4
  · rw [hb.cell (p := ⟨b, off + i * 6 + 5, none⟩) hl]; exact c5
theorem open_asks {H : Type} {enc : TypeId × Value → H} {W : World} {fuel : Nat} {cs : List Value} {x : DataW H × List MemPlace} (h : DataW.trod enc Try.prog W 0 (fun _ => true) true fuel 33 cs = some x) :
    cs = [.slice none 0 0] ∨ ∃ (a : Addr) (len cap : Nat), cs = [.slice (some a) len cap] ∧ len ≤ maxLen ∧ (0 < len → ∃ b off q, a = ⟨b, off, none⟩ ∧ Asks W b off len q) := by
  rcases open_slice Try.underlying33 h with h0 | ⟨a, len, cap, m, n, D, Pl, rfl, hb, hl, hm, hmm, rfl, hx⟩
  · exact .inl h0.1
  right
  refine ⟨a, len, cap, rfl, Nat.le_trans hl hm, fun hpos => ?_⟩
  simp only [if_true] at hmm
  subst hmm
  have each : ∀ i, i < len → ∃ q : Int × Int × Int × Int × Int × Int, W.cell? (a.add (i * 6)) = some (.int .i64 q.1) ∧ W.cell? (a.add (i * 6 + 1)) = some (.int .i64 q.2.1) ∧ W.cell? (a.add (i * 6 + 2)) = some (.int .i64 q.2.2.1) ∧ W.cell? (a.add (i * 6 + 3)) = some (.int .i64 q.2.2.2.1) ∧
      W.cell? (a.add (i * 6 + 4)) = some (.int .i64 q.2.2.2.2.1) ∧ W.cell? (a.add (i * 6 + 5)) = some (.int .i64 q.2.2.2.2.2) := by
    intro i hi
    obtain ⟨cs', h1, h2⟩ := hx i (by omega)
    rw [cells_ask] at h1
    obtain ⟨_, hlen, hcell⟩ := World.cells?_some h1
    match cs', hlen with
    | [v0, v1, v2, v3, v4, v5], _ =>
      obtain ⟨z0, z1, z2, z3, z4, z5, e0, e1, e2, e3, e4, e5⟩ := trod_ask h2
      have f0 := hcell 0 (by omega)
      have f1 := hcell 1 (by omega)
      have f2 := hcell 2 (by omega)
      have f3 := hcell 3 (by omega)
      have f4 := hcell 4 (by omega)
      have f5 := hcell 5 (by omega)
      rw [add_add] at f0 f1 f2 f3 f4 f5
      exact ⟨(z0, z1, z2, z3, z4, z5), by simpa [e0] using f0, by simpa [e1] using f1, by simpa [e2] using f2, by simpa [e3] using f3, by simpa [e4] using f4, by simpa [e5] using f5⟩
  obtain ⟨q, hq⟩ := choose_lt each
  obtain ⟨b, off, spot⟩ := a
  have hspot : spot = none := by
    have := (hq 0 hpos).1
    simpa [Addr.add] using World.cell?_spot this
  subst hspot
  refine ⟨b, off, q, rfl, fun i hi => ?_⟩
  obtain ⟨c0, c1, c2, c3, c4, c5⟩ := hq i hi
  rw [add_plain] at c0 c1 c2 c3 c4 c5
  exact ⟨c0, by rw [Nat.add_assoc]; exact c1, by rw [Nat.add_assoc]; exact c2, by rw [Nat.add_assoc]; exact c3, by rw [Nat.add_assoc]; exact c4, by rw [Nat.add_assoc]; exact c5⟩
set_option maxHeartbeats 2000000 in
theorem all_none (x : Option Addr) (cap : Nat) (w : World) :
    Calls Try.prog 7 #[.slice x 0 cap] w fun e w' => e = .returned (.bool true) ∧ Below w.heap.size w w' := by
  have hB := Below.refl w.heap.size w
  go_enter Try.func7, Try.ntmps7
  go_wp2
  go_loopw [3] (fun r wr => ∃ j : Int, r = .int .i64 j ∧ 0 ≤ j ∧ j ≤ 2 ∧ Below w.heap.size w wr) (fun r _ => (2 - intOf r).toNat)
  case atStart => exact ⟨0, rfl, by decide, by decide, hB⟩
  case round =>
    clear hB
    obtain ⟨j, rfl, j0, j1, hB⟩ := hrel
    by_cases hj : j < 2
    · go_wp2
      go_loopw [4] (fun i wr => i = .int .i64 0 ∧ Below w.heap.size w wr) (fun _ _ => 0)
      case atStart => exact ⟨rfl, hB⟩
      case round =>
        clear hB
        obtain ⟨rfl, hB⟩ := hrel
        go_wp2
        go_roundw
        case rel => exact ⟨j + 1, rfl, by omega, by omega, hB⟩
        case measure => simp [intOf]; omega
    · obtain rfl : j = 2 := by omega
      go_wp2_with fail
      refine (alive_any _).mono ?_
      rintro e w1 ⟨rfl, hg⟩
      have hB2 := below_seq hB hg
      go_wp2
      go_ret
      exact ⟨rfl, hB2⟩
set_option maxHeartbeats 4000000 in
theorem all_some (w : World) (b off len cap : Nat) (q : Nat → Int × Int × Int × Int × Int × Int) (h : Asks w b off len q) (hlen : len ≤ 9223372036854775807) (h0 : 0 < len) :
    Calls Try.prog 7 #[.slice (some ⟨b, off, none⟩) len cap] w fun e w' => e = .returned (.bool true) ∧ Below w.heap.size w w' := by
  have H := hid_mk h
  clear h
  have hB := Below.refl w.heap.size w
  go_enter Try.func7, Try.ntmps7
  go_wp2
  go_loopw [3] (fun r wr => ∃ j : Int, r = .int .i64 j ∧ 0 ≤ j ∧ j ≤ 2 ∧ Below w.heap.size w wr) (fun r _ => (2 - intOf r).toNat)
  case atStart => exact ⟨0, rfl, by decide, by decide, hB⟩
  case round =>
    clear hB
    obtain ⟨j, rfl, j0, j1, hB⟩ := hrel
    by_cases hj : j < 2
    · go_wp2
      go_loopw [4] (fun i wr => ∃ k : Nat, k ≤ len ∧ i = .int .i64 k ∧ Below w.heap.size w wr) (fun i _ => len - (intOf i).toNat)
      case atStart => exact ⟨0, by omega, by simp, hB⟩
      case round =>
        clear hB
        obtain ⟨k, hk, rfl, hB⟩ := hrel
        by_cases hkl : k < len
        · have A := H.out.kept hB k hkl
          generalize q k = p at *
          obtain ⟨z0, z1, z2, z3, z4, z5⟩ := p
          obtain ⟨c0, c1, c2, c3, c4, c5⟩ := A
          simp only at c0 c1 c2 c3 c4 c5
          go_wp2_with fail
          refine (lawOf_any _ _ _ _ _ _ _).mono ?_
          rintro e w1 ⟨rfl, hg⟩
          have A1 : AskAt w1 b (off + k * 6) (z0, z1, z2, z3, z4, z5) := AskAt.kept ⟨c0, c1, c2, c3, c4, c5⟩ hg
          have hB1 := below_seq hB hg
          clear hg hB c0 c1 c2 c3 c4 c5
          obtain ⟨c0, c1, c2, c3, c4, c5⟩ := A1
          simp only at c0 c1 c2 c3 c4 c5
          go_wp2_with fail
          refine (lawSlots_any _ _ _ _ _ _ _).mono ?_
          rintro e w2 ⟨rfl, hg⟩
          have A2 : AskAt w2 b (off + k * 6) (z0, z1, z2, z3, z4, z5) := AskAt.kept ⟨c0, c1, c2, c3, c4, c5⟩ hg
          have hB2 := below_seq hB1 hg
          clear hg hB1 c0 c1 c2 c3 c4 c5
          obtain ⟨c0, c1, c2, c3, c4, c5⟩ := A2
          simp only at c0 c1 c2 c3 c4 c5
          go_wp2_with fail
          refine (lawGrows_any _ _ _ _ _ _ _).mono ?_
          rintro e w3 ⟨rfl, hg⟩
          have hB3 := below_seq hB2 hg
          clear hg hB2 c0 c1 c2 c3 c4 c5
          go_wp2
          go_roundw
          case rel => exact ⟨k + 1, by omega, by simp, hB3⟩
          case measure => simp [intOf]; omega
        · obtain rfl : k = len := by omega
          go_wp2
          go_roundw
          case rel => exact ⟨j + 1, rfl, by omega, by omega, hB⟩
          case measure => simp [intOf]; omega
    · obtain rfl : j = 2 := by omega
      go_wp2_with fail
      refine (alive_any _).mono ?_
      rintro e w1 ⟨rfl, hg⟩
      have hB2 := below_seq hB hg
      go_wp2
      go_ret
      exact ⟨rfl, hB2⟩
end Go.Proofs.Ytjboogfbdgbfbaa
