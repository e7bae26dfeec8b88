/- one ask of a script -/
import Derived.Test.YteepkghjphmegabWAr6
import Derived.Test.YteepkghjphmegabTr
namespace Go.Proofs.Yteepkghjphmegab
open Go.ChangeShapes Go.WideShapes Go.ChangeAt Go.RowKit
set_option linter.unusedVariables false
set_option linter.unusedSimpArgs false

/-- that a law over two ints answers true, whatever they are -/
def Two (f : FuncId) : Prop := ∀ (a b : Int) (w : World), -9223372036854775808 ≤ a → a ≤ 9223372036854775807 → -9223372036854775808 ≤ b → b ≤ 9223372036854775807 →
  Calls Try.prog f #[.int .i64 a, .int .i64 b] w fun e w' => e = .returned (.bool true) ∧ Below w.heap.size w w'
theorem ask_cells {W : World} {g : Nat} {x y z : Int} (h : W.heap[g]? = some (.cells #[.int .i64 x, .int .i64 y, .int .i64 z] 29 (0, 0))) :
    W.cell? ⟨g, 0, none⟩ = some (.int .i64 x) ∧ W.cell? ⟨g, 1, none⟩ = some (.int .i64 y) ∧ W.cell? ⟨g, 2, none⟩ = some (.int .i64 z) := by
  simp [World.cell?, h]
theorem ask_kept {W W' : World} {g : Nat} {o : Obj} (h : W.heap[g]? = some o) (hb : Below W.heap.size W W') : W'.heap[g]? = some o := by
  rw [← h]; exact hb.block g (Array.getElem?_eq_some_iff.1 h).1
theorem below_two {B : Nat} {a b c : World} (h : Below B a b) (k : Below b.heap.size b c) (hB : B ≤ b.heap.size) : Below B a c := h.trans (k.mono hB)
set_option maxHeartbeats 2000000 in
theorem asked_of (hs : Two 34) (hp : Two 35) (hl : Two 36) (ht : Two 3) (k a b : Int) (w : World) (i1 : -9223372036854775808 ≤ a) (i2 : a ≤ 9223372036854775807) (i3 : -9223372036854775808 ≤ b) (i4 : b ≤ 9223372036854775807) :
    Calls Try.prog 13 #[.agg #[.int .i64 k, .int .i64 a, .int .i64 b]] w fun e w' => e = .returned (.bool true) ∧ Below w.heap.size w w' := by
  have HS := hid_mk hs
  have HP := hid_mk hp
  have HL := hid_mk hl
  have HT := hid_mk ht
  clear hs hp hl ht
  have h0 : Below w.heap.size w (w.alloc (.cells #[.int .i64 k, .int .i64 a, .int .i64 b] 29)) := (Below.refl _ _).alloc (Nat.le_refl _) _
  have hA := heap_alloc_new w (.cells #[.int .i64 k, .int .i64 a, .int .i64 b] 29)
  by_cases k3 : k = 3
  · subst k3
    obtain ⟨x0, x1, x2⟩ := ask_cells hA
    go_enter Try.func13, Try.ntmps13
    go_wp2_with fail
    refine (HS.out a b _ i1 i2 i3 i4).mono ?_
    rintro e w1 ⟨rfl, hb1⟩
    have hA1 := ask_kept hA hb1
    have h1 := below_two h0 hb1 h0.size
    clear hA h0 hb1 x0 x1 x2
    obtain ⟨x0, x1, x2⟩ := ask_cells hA1
    go_wp2_with fail
    refine (HP.out a b _ i1 i2 i3 i4).mono ?_
    rintro e w2 ⟨rfl, hb2⟩
    have hA2 := ask_kept hA1 hb2
    have h2 := below_two h1 hb2 h1.size
    clear hA1 h1 hb2 x0 x1 x2
    obtain ⟨x0, x1, x2⟩ := ask_cells hA2
    go_wp2_with fail
    refine (HL.out a b _ i1 i2 i3 i4).mono ?_
    rintro e w3 ⟨rfl, hb3⟩
    have h3 := below_two h2 hb3 h2.size
    go_wp2
    go_ret
    exact ⟨rfl, h3⟩
  · by_cases k0 : k = 0
    · subst k0
      obtain ⟨x0, x1, x2⟩ := ask_cells hA
      go_enter Try.func13, Try.ntmps13
      go_wp2_with (go_at_call 31; refine calls_same (wrapped_any _ _) ?_)
      go_ret
      exact ⟨rfl, h0⟩
    · by_cases k1 : k = 1
      · subst k1
        obtain ⟨x0, x1, x2⟩ := ask_cells hA
        go_enter Try.func13, Try.ntmps13
        go_wp2_with (go_at_call 32; refine (whole_any _ _ _).mono ?_; rintro e w1 ⟨rfl, hb1⟩)
        go_ret
        exact ⟨rfl, below_two h0 hb1 h0.size⟩
      · by_cases k2 : k = 2
        · subst k2
          obtain ⟨x0, x1, x2⟩ := ask_cells hA
          go_enter Try.func13, Try.ntmps13
          go_wp2_with (go_at_call 33; refine (bits_any _ _ i1 i2).mono ?_; rintro e w1 ⟨rfl, hb1⟩)
          go_ret
          exact ⟨rfl, below_two h0 hb1 h0.size⟩
        · by_cases k4 : k = 4
          · subst k4
            obtain ⟨x0, x1, x2⟩ := ask_cells hA
            go_enter Try.func13, Try.ntmps13
            go_wp2_with (go_at_call 3; refine (HT.out _ _ _ i1 i2 i3 i4).mono ?_; rintro e w1 ⟨rfl, hb1⟩)
            go_ret
            exact ⟨rfl, below_two h0 hb1 h0.size⟩
          · obtain ⟨x0, x1, x2⟩ := ask_cells hA
            have e0 : (k == 0) = false := by simpa using k0
            have e1 : (k == 1) = false := by simpa using k1
            have e2 : (k == 2) = false := by simpa using k2
            have e3 : (k == 3) = false := by simpa using k3
            have e4 : (k == 4) = false := by simpa using k4
            go_enter Try.func13, Try.ntmps13
            go_wp2
            go_ret
            exact ⟨rfl, h0⟩
end Go.Proofs.Yteepkghjphmegab
