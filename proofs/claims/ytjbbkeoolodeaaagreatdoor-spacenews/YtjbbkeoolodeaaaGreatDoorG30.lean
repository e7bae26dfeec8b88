import Derived.Test.YtjbbkeoolodeaaaGreatDoorG26
import Derived.Test.YtjbbkeoolodeaaaGreatDoorG27
import Derived.Test.YtjbbkeoolodeaaaGreatDoorG28
import Derived.Test.YtjbbkeoolodeaaaGreatDoorG29
namespace Go.Proofs.YtjbbkeoolodeaaaGreatDoor
open Go.RowKit
set_option linter.unusedVariables false
set_option linter.unusedSimpArgs false

/-- three lists of a dump, in blocks of their own that nobody holds yet; the document's beside them -/
def DIn (B : Nat) (w : World) (col : Nat → Nat) (x : Nat → Value) (n : Nat → Nat) (f : Nat → Nat → Nat → Int) : Prop :=
  (∀ t, t < 3 → OwnF B w t (x (2 + 2 * t)) (n t) (f t) ∧ n t ≤ 1536 ∧ ElAt w (x (3 + 2 * t)) (n t) (szK t) (f t) ∧ ∀ g, (x (2 + 2 * t)).ownBlock = some g → col g = 9) ∧ ∀ t s g, t < 3 → s < 3 → t ≠ s → (x (2 + 2 * t)).ownBlock = some g → (x (2 + 2 * s)).ownBlock ≠ some g
set_option maxRecDepth 100000 in
set_option maxHeartbeats 16000000 in
theorem kdump_many {B b : Nat} {w : World} {V : Nat → Value} {X : Nat → List Value} {C : Nat → Nat → Nat × (Nat → Nat → Int)} {col : Nat → Nat} {p : Nat → Nat} {x : Nat → Value} {n : Nat → Nat} {f : Nat → Nat → Nat → Int} {N0 N2 : Nat} {h0 h1 h2 h3 h4 h5 h6 h7 sr : Int} {q : Bool}
    (h : Kp B w b V X C col none p) (hl : ∀ t, t < 3 → ElAt w (x (2 + 2 * t)) (n t) (szK t) (f t) ∧ n t ≤ 1536 ∧ ElAt w (x (3 + 2 * t)) (n t) (szK t) (f t))
    (hM : (X 2).length = N0 ∧ (X 6).length = N2) (hN : N0 ≤ 100 ∧ N2 ≤ 100) (hmany : 30 < N0 + N2) :
    Calls Tryz.prog 36 #[.pointer (some ⟨b, 2, none⟩), .agg #[x 2, x 4, x 6, .int .i64 h0, .int .i64 h1, .int .i64 h2, .int .i64 h3, .int .i64 h4, .int .i64 h5, .int .i64 h6, .int .i64 h7, .int .i64 sr], .agg #[x 3, x 5, x 7, .int .i64 h0, .int .i64 h1, .int .i64 h2, .int .i64 h3, .int .i64 h4, .int .i64 h5, .int .i64 h6, .int .i64 h7, .int .i64 sr], .bool q] w fun e w' => e = .returned (.bool true) ∧ Out 0 0 w w' := by
  obtain ⟨a2, c2, ex2, ew⟩ := (hl 0 (by omega)).1
  clear ew
  rw [show 2 + 2 * 0 = 2 from rfl] at ex2
  obtain ⟨a3, c3, ex3, ew⟩ := (hl 0 (by omega)).2.2
  clear ew
  rw [show 3 + 2 * 0 = 3 from rfl] at ex3
  obtain ⟨a4, c4, ex4, ew⟩ := (hl 1 (by omega)).1
  clear ew
  rw [show 2 + 2 * 1 = 4 from rfl] at ex4
  obtain ⟨a5, c5, ex5, ew⟩ := (hl 1 (by omega)).2.2
  clear ew
  rw [show 3 + 2 * 1 = 5 from rfl] at ex5
  obtain ⟨a6, c6, ex6, ew⟩ := (hl 2 (by omega)).1
  clear ew
  rw [show 2 + 2 * 2 = 6 from rfl] at ex6
  obtain ⟨a7, c7, ex7, ew⟩ := (hl 2 (by omega)).2.2
  clear ew
  rw [show 3 + 2 * 2 = 7 from rfl] at ex7
  obtain ⟨m0, hm0⟩ : ∃ m, n 0 = m := ⟨_, rfl⟩
  rw [hm0] at ex2 ex3
  obtain ⟨m1, hm1⟩ : ∃ m, n 1 = m := ⟨_, rfl⟩
  rw [hm1] at ex4 ex5
  obtain ⟨m2, hm2⟩ : ∃ m, n 2 = m := ⟨_, rfl⟩
  rw [hm2] at ex6 ex7
  have HS0 : Hid (∀ W, Out 0 0 w W → Calls Tryz.prog 77 #[.slice a2 m0 c2, .slice a3 m0 c3] W fun e w' => e = .returned (.bool true) ∧ Out 0 0 W w') := fun W o => by
    have q := sameInts_any ((hl 0 (by omega)).1.quiet o) ((hl 0 (by omega)).2.2.quiet o) (by have := (hl 0 (by omega)).2.1; omega)
    rw [show 2 + 2 * 0 = 2 from rfl, show 3 + 2 * 0 = 3 from rfl, ex2, ex3] at q
    exact q
  have HS1 : Hid (∀ W, Out 0 0 w W → Calls Tryz.prog 78 #[.slice a4 m1 c4, .slice a5 m1 c5] W fun e w' => e = .returned (.bool true) ∧ Out 0 0 W w') := fun W o => by
    have q := samePages_any ((hl 1 (by omega)).1.quiet o) ((hl 1 (by omega)).2.2.quiet o) (by have := (hl 1 (by omega)).2.1; omega)
    rw [show 2 + 2 * 1 = 4 from rfl, show 3 + 2 * 1 = 5 from rfl, ex4, ex5] at q
    exact q
  have HS2 : Hid (∀ W, Out 0 0 w W → Calls Tryz.prog 63 #[.slice a6 m2 c6, .slice a7 m2 c7] W fun e w' => e = .returned (.bool true) ∧ Out 0 0 W w') := fun W o => by
    have q := sameBlocks_any ((hl 2 (by omega)).1.quiet o) ((hl 2 (by omega)).2.2.quiet o) (by have := (hl 2 (by omega)).2.1; omega)
    rw [show 2 + 2 * 2 = 6 from rfl, show 3 + 2 * 2 = 7 from rfl, ex6, ex7] at q
    exact q
  have HMany : Hid (∀ W, Out 0 0 w W → Calls Tryz.prog 64 #[.pointer (some ⟨b, 2, none⟩)] W fun e w' => e = .returned (.bool true) ∧ Out 0 0 W w') := fun W o => by
    have q := many_any (h.quiet o) hM.1 hM.2 hN
    rw [show decide (30 < N0 + N2) = true from by simp; omega] at q
    exact q
  obtain ⟨bd, hbd⟩ : ∃ bd, w.heap.size = bd := ⟨_, rfl⟩
  rw [ex2, ex3, ex4, ex5, ex6, ex7]
  have HEx := hid_mk (And.intro ex2 (And.intro ex3 (And.intro ex4 (And.intro ex5 (And.intro ex6 ex7)))))
  clear h hl hM hN hmany hm0 hm1 hm2 ex2 ex3 ex4 ex5 ex6 ex7
  go_enter Tryz.func36, Tryz.ntmps36
  go_wp2_with fail
  obtain ⟨w1, hw1⟩ : ∃ w1, (w.alloc (.cells #[.slice a2 m0 c2, .slice a4 m1 c4, .slice a6 m2 c6, .int .i64 h0, .int .i64 h1, .int .i64 h2, .int .i64 h3, .int .i64 h4, .int .i64 h5, .int .i64 h6, .int .i64 h7, .int .i64 sr] 73)).alloc (.cells #[.slice a3 m0 c3, .slice a5 m1 c5, .slice a7 m2 c7, .int .i64 h0, .int .i64 h1, .int .i64 h2, .int .i64 h3, .int .i64 h4, .int .i64 h5, .int .i64 h6, .int .i64 h7, .int .i64 sr] 73) = w1 := ⟨_, rfl⟩
  have o1 : Out 0 0 w w1 := by rw [← hw1]; exact ((Out.refl 0 0 w).alloc _).alloc _
  have fD : w1.heap[bd]? = some (.cells #[.slice a2 m0 c2, .slice a4 m1 c4, .slice a6 m2 c6, .int .i64 h0, .int .i64 h1, .int .i64 h2, .int .i64 h3, .int .i64 h4, .int .i64 h5, .int .i64 h6, .int .i64 h7, .int .i64 sr] 73 (0, 0)) := by rw [← hw1, ← hbd]; exact (heap_alloc_old _ _ (by simp)).trans (heap_alloc_new _ _)
  have fW : w1.heap[bd + 1]? = some (.cells #[.slice a3 m0 c3, .slice a5 m1 c5, .slice a7 m2 c7, .int .i64 h0, .int .i64 h1, .int .i64 h2, .int .i64 h3, .int .i64 h4, .int .i64 h5, .int .i64 h6, .int .i64 h7, .int .i64 sr] 73 (0, 0)) := by
    have q := heap_alloc_new (w.alloc (.cells #[.slice a2 m0 c2, .slice a4 m1 c4, .slice a6 m2 c6, .int .i64 h0, .int .i64 h1, .int .i64 h2, .int .i64 h3, .int .i64 h4, .int .i64 h5, .int .i64 h6, .int .i64 h7, .int .i64 sr] 73)) (.cells #[.slice a3 m0 c3, .slice a5 m1 c5, .slice a7 m2 c7, .int .i64 h0, .int .i64 h1, .int .i64 h2, .int .i64 h3, .int .i64 h4, .int .i64 h5, .int .i64 h6, .int .i64 h7, .int .i64 sr] 73)
    rw [World.size_alloc, hw1, hbd] at q
    exact q
  obtain ⟨bw, hbw⟩ : ∃ bw, bd + 1 = bw := ⟨_, rfl⟩
  rw [hbw] at fW
  (try rw [hw1])
  (try rw [hbw])
  have HB1 := hid_mk (And.intro hbd (And.intro hbw (And.intro o1 (And.intro fD fW))))
  clear hw1 hbd hbw o1 fD fW
  refine (HS0.out _ HB1.out.2.2.1).mono ?_
  rintro e w2 ⟨rfl, o2⟩
  have HB2 : Hid (Out 0 0 w w2 ∧ w2.heap[bd]? = _ ∧ w2.heap[bw]? = _) := ⟨HB1.out.2.2.1.trans o2, o2.heap HB1.out.2.2.2.1 (.inr (Nat.zero_le _)), o2.heap HB1.out.2.2.2.2 (.inr (Nat.zero_le _))⟩
  obtain ⟨_, f1, _⟩ := dmp_cells HB2.out.2.1
  obtain ⟨_, g1, _⟩ := dmp_cells HB2.out.2.2
  clear o2
  go_wp2_with fail
  clear f1 g1
  refine (HS1.out _ HB2.out.1).mono ?_
  rintro e w3 ⟨rfl, o3⟩
  have HB3 : Hid (Out 0 0 w w3 ∧ w3.heap[bd]? = _ ∧ w3.heap[bw]? = _) := ⟨HB2.out.1.trans o3, o3.heap HB2.out.2.1 (.inr (Nat.zero_le _)), o3.heap HB2.out.2.2 (.inr (Nat.zero_le _))⟩
  obtain ⟨_, _, f2, _⟩ := dmp_cells HB3.out.2.1
  obtain ⟨_, _, g2, _⟩ := dmp_cells HB3.out.2.2
  clear o3
  go_wp2_with fail
  clear f2 g2
  refine (HS2.out _ HB3.out.1).mono ?_
  rintro e w4 ⟨rfl, o4⟩
  have HB4 : Hid (Out 0 0 w w4 ∧ w4.heap[bd]? = _ ∧ w4.heap[bw]? = _) := ⟨HB3.out.1.trans o4, o4.heap HB3.out.2.1 (.inr (Nat.zero_le _)), o4.heap HB3.out.2.2 (.inr (Nat.zero_le _))⟩
  obtain ⟨_, _, _, f3, f4, f5, f6, f7, f8, f9, f10, f11⟩ := dmp_cells HB4.out.2.1
  obtain ⟨_, _, _, g3, g4, g5, g6, g7, g8, g9, g10, g11⟩ := dmp_cells HB4.out.2.2
  have e8 := eq8 h0 h1 h2 h3 h4 h5 h6 h7 w4
  clear o4
  go_wp2_with fail
  refine (HMany.out _ HB4.out.1).mono ?_
  rintro e w5 ⟨rfl, o5⟩
  have HB5 : Hid (Out 0 0 w w5 ∧ w5.heap[bd]? = _ ∧ w5.heap[bw]? = _) := ⟨HB4.out.1.trans o5, o5.heap HB4.out.2.1 (.inr (Nat.zero_le _)), o5.heap HB4.out.2.2 (.inr (Nat.zero_le _))⟩
  clear f3 f4 f5 f6 f7 f8 f9 f10 f11 g3 g4 g5 g6 g7 g8 g9 g10 g11 e8 o5
  go_wp2
  go_ret
  exact ⟨rfl, HB5.out.1⟩
set_option maxRecDepth 100000 in
set_option maxHeartbeats 16000000 in
theorem kdump_mark {B b : Nat} {w : World} {V : Nat → Value} {X : Nat → List Value} {C : Nat → Nat → Nat × (Nat → Nat → Int)} {col : Nat → Nat} {p : Nat → Nat} {x : Nat → Value} {n : Nat → Nat} {f : Nat → Nat → Nat → Int} {N0 N2 F0 F1 F2 : Nat} {h0 h1 h2 h3 h4 h5 h6 h7 sr : Int}
    (h : Kp B w b V X C col none p) (hd : DIn B w col x n f) (hM : Lens X N0 N2 F0 F1 F2) (hF : F0 ≤ 8000 ∧ F1 ≤ 8000 ∧ F2 ≤ 8000) (hfew : N0 + N2 ≤ 30) :
    Calls Tryz.prog 36 #[.pointer (some ⟨b, 2, none⟩), .agg #[x 2, x 4, x 6, .int .i64 h0, .int .i64 h1, .int .i64 h2, .int .i64 h3, .int .i64 h4, .int .i64 h5, .int .i64 h6, .int .i64 h7, .int .i64 sr], .agg #[x 3, x 5, x 7, .int .i64 h0, .int .i64 h1, .int .i64 h2, .int .i64 h3, .int .i64 h4, .int .i64 h5, .int .i64 h6, .int .i64 h7, .int .i64 sr], .bool false] w fun e w' => e = .returned (.bool true) ∧ ∃ V' X' col', Kp B w' b V' X' C col' none p ∧ Lens X' N0 N2 (F0 + 8) (F1 + 8) (F2 + 8) ∧ (∀ j, j < 8 → V' j = V j ∧ X' j = X j) ∧ Fix col col' w w' := by
  have hl : ∀ t, t < 3 → ElAt w (x (2 + 2 * t)) (n t) (szK t) (f t) ∧ n t ≤ 1536 ∧ ElAt w (x (3 + 2 * t)) (n t) (szK t) (f t) := fun t ht => ⟨(hd.1 t ht).1.el, (hd.1 t ht).2.1, (hd.1 t ht).2.2.1⟩
  have HD := hid_mk hd
  have HFs := hid_mk hF
  have HLe := hid_mk hM
  obtain ⟨a2, c2, ex2, ew⟩ := (hl 0 (by omega)).1
  clear ew
  rw [show 2 + 2 * 0 = 2 from rfl] at ex2
  obtain ⟨a3, c3, ex3, ew⟩ := (hl 0 (by omega)).2.2
  clear ew
  rw [show 3 + 2 * 0 = 3 from rfl] at ex3
  obtain ⟨a4, c4, ex4, ew⟩ := (hl 1 (by omega)).1
  clear ew
  rw [show 2 + 2 * 1 = 4 from rfl] at ex4
  obtain ⟨a5, c5, ex5, ew⟩ := (hl 1 (by omega)).2.2
  clear ew
  rw [show 3 + 2 * 1 = 5 from rfl] at ex5
  obtain ⟨a6, c6, ex6, ew⟩ := (hl 2 (by omega)).1
  clear ew
  rw [show 2 + 2 * 2 = 6 from rfl] at ex6
  obtain ⟨a7, c7, ex7, ew⟩ := (hl 2 (by omega)).2.2
  clear ew
  rw [show 3 + 2 * 2 = 7 from rfl] at ex7
  obtain ⟨m0, hm0⟩ : ∃ m, n 0 = m := ⟨_, rfl⟩
  rw [hm0] at ex2 ex3
  obtain ⟨m1, hm1⟩ : ∃ m, n 1 = m := ⟨_, rfl⟩
  rw [hm1] at ex4 ex5
  obtain ⟨m2, hm2⟩ : ∃ m, n 2 = m := ⟨_, rfl⟩
  rw [hm2] at ex6 ex7
  have HS0 : Hid (∀ W, Out 0 0 w W → Calls Tryz.prog 77 #[.slice a2 m0 c2, .slice a3 m0 c3] W fun e w' => e = .returned (.bool true) ∧ Out 0 0 W w') := fun W o => by
    have q := sameInts_any ((hl 0 (by omega)).1.quiet o) ((hl 0 (by omega)).2.2.quiet o) (by have := (hl 0 (by omega)).2.1; omega)
    rw [show 2 + 2 * 0 = 2 from rfl, show 3 + 2 * 0 = 3 from rfl, ex2, ex3] at q
    exact q
  have HS1 : Hid (∀ W, Out 0 0 w W → Calls Tryz.prog 78 #[.slice a4 m1 c4, .slice a5 m1 c5] W fun e w' => e = .returned (.bool true) ∧ Out 0 0 W w') := fun W o => by
    have q := samePages_any ((hl 1 (by omega)).1.quiet o) ((hl 1 (by omega)).2.2.quiet o) (by have := (hl 1 (by omega)).2.1; omega)
    rw [show 2 + 2 * 1 = 4 from rfl, show 3 + 2 * 1 = 5 from rfl, ex4, ex5] at q
    exact q
  have HS2 : Hid (∀ W, Out 0 0 w W → Calls Tryz.prog 63 #[.slice a6 m2 c6, .slice a7 m2 c7] W fun e w' => e = .returned (.bool true) ∧ Out 0 0 W w') := fun W o => by
    have q := sameBlocks_any ((hl 2 (by omega)).1.quiet o) ((hl 2 (by omega)).2.2.quiet o) (by have := (hl 2 (by omega)).2.1; omega)
    rw [show 2 + 2 * 2 = 6 from rfl, show 3 + 2 * 2 = 7 from rfl, ex6, ex7] at q
    exact q
  have HMany : Hid (∀ W, Out 0 0 w W → Calls Tryz.prog 64 #[.pointer (some ⟨b, 2, none⟩)] W fun e w' => e = .returned (.bool false) ∧ Out 0 0 W w') := fun W o => by
    have q := many_any (h.quiet o) hM.1.1 hM.1.2.2.2.2.1 (by omega)
    rw [show decide (30 < N0 + N2) = false from by simp; omega] at q
    exact q
  have HKp := hid_mk h
  clear hd hF
  obtain ⟨bd, hbd⟩ : ∃ bd, w.heap.size = bd := ⟨_, rfl⟩
  rw [ex2, ex3, ex4, ex5, ex6, ex7]
  have HEx := hid_mk (And.intro ex2 (And.intro ex3 (And.intro ex4 (And.intro ex5 (And.intro ex6 ex7)))))
  clear h hl hM hfew hm0 hm1 hm2 ex2 ex3 ex4 ex5 ex6 ex7
  go_enter Tryz.func36, Tryz.ntmps36
  go_wp2_with fail
  obtain ⟨w1, hw1⟩ : ∃ w1, (w.alloc (.cells #[.slice a2 m0 c2, .slice a4 m1 c4, .slice a6 m2 c6, .int .i64 h0, .int .i64 h1, .int .i64 h2, .int .i64 h3, .int .i64 h4, .int .i64 h5, .int .i64 h6, .int .i64 h7, .int .i64 sr] 73)).alloc (.cells #[.slice a3 m0 c3, .slice a5 m1 c5, .slice a7 m2 c7, .int .i64 h0, .int .i64 h1, .int .i64 h2, .int .i64 h3, .int .i64 h4, .int .i64 h5, .int .i64 h6, .int .i64 h7, .int .i64 sr] 73) = w1 := ⟨_, rfl⟩
  have o1 : Out 0 0 w w1 := by rw [← hw1]; exact ((Out.refl 0 0 w).alloc _).alloc _
  have fD : w1.heap[bd]? = some (.cells #[.slice a2 m0 c2, .slice a4 m1 c4, .slice a6 m2 c6, .int .i64 h0, .int .i64 h1, .int .i64 h2, .int .i64 h3, .int .i64 h4, .int .i64 h5, .int .i64 h6, .int .i64 h7, .int .i64 sr] 73 (0, 0)) := by rw [← hw1, ← hbd]; exact (heap_alloc_old _ _ (by simp)).trans (heap_alloc_new _ _)
  have fW : w1.heap[bd + 1]? = some (.cells #[.slice a3 m0 c3, .slice a5 m1 c5, .slice a7 m2 c7, .int .i64 h0, .int .i64 h1, .int .i64 h2, .int .i64 h3, .int .i64 h4, .int .i64 h5, .int .i64 h6, .int .i64 h7, .int .i64 sr] 73 (0, 0)) := by
    have q := heap_alloc_new (w.alloc (.cells #[.slice a2 m0 c2, .slice a4 m1 c4, .slice a6 m2 c6, .int .i64 h0, .int .i64 h1, .int .i64 h2, .int .i64 h3, .int .i64 h4, .int .i64 h5, .int .i64 h6, .int .i64 h7, .int .i64 sr] 73)) (.cells #[.slice a3 m0 c3, .slice a5 m1 c5, .slice a7 m2 c7, .int .i64 h0, .int .i64 h1, .int .i64 h2, .int .i64 h3, .int .i64 h4, .int .i64 h5, .int .i64 h6, .int .i64 h7, .int .i64 sr] 73)
    rw [World.size_alloc, hw1, hbd] at q
    exact q
  obtain ⟨bw, hbw⟩ : ∃ bw, bd + 1 = bw := ⟨_, rfl⟩
  rw [hbw] at fW
  (try rw [hw1])
  (try rw [hbw])
  have HB1 := hid_mk (And.intro hbd (And.intro hbw (And.intro o1 (And.intro fD fW))))
  clear hw1 hbd hbw o1 fD fW
  refine (HS0.out _ HB1.out.2.2.1).mono ?_
  rintro e w2 ⟨rfl, o2⟩
  have HB2 : Hid (Out 0 0 w w2 ∧ w2.heap[bd]? = _ ∧ w2.heap[bw]? = _) := ⟨HB1.out.2.2.1.trans o2, o2.heap HB1.out.2.2.2.1 (.inr (Nat.zero_le _)), o2.heap HB1.out.2.2.2.2 (.inr (Nat.zero_le _))⟩
  obtain ⟨_, f1, _⟩ := dmp_cells HB2.out.2.1
  obtain ⟨_, g1, _⟩ := dmp_cells HB2.out.2.2
  clear o2
  go_wp2_with fail
  clear f1 g1
  refine (HS1.out _ HB2.out.1).mono ?_
  rintro e w3 ⟨rfl, o3⟩
  have HB3 : Hid (Out 0 0 w w3 ∧ w3.heap[bd]? = _ ∧ w3.heap[bw]? = _) := ⟨HB2.out.1.trans o3, o3.heap HB2.out.2.1 (.inr (Nat.zero_le _)), o3.heap HB2.out.2.2 (.inr (Nat.zero_le _))⟩
  obtain ⟨_, _, f2, _⟩ := dmp_cells HB3.out.2.1
  obtain ⟨_, _, g2, _⟩ := dmp_cells HB3.out.2.2
  clear o3
  go_wp2_with fail
  clear f2 g2
  refine (HS2.out _ HB3.out.1).mono ?_
  rintro e w4 ⟨rfl, o4⟩
  have HB4 : Hid (Out 0 0 w w4 ∧ w4.heap[bd]? = _ ∧ w4.heap[bw]? = _) := ⟨HB3.out.1.trans o4, o4.heap HB3.out.2.1 (.inr (Nat.zero_le _)), o4.heap HB3.out.2.2 (.inr (Nat.zero_le _))⟩
  obtain ⟨_, _, _, f3, f4, f5, f6, f7, f8, f9, f10, f11⟩ := dmp_cells HB4.out.2.1
  obtain ⟨_, _, _, g3, g4, g5, g6, g7, g8, g9, g10, g11⟩ := dmp_cells HB4.out.2.2
  have e8 := eq8 h0 h1 h2 h3 h4 h5 h6 h7 w4
  clear o4
  go_wp2_with fail
  refine (HMany.out _ HB4.out.1).mono ?_
  rintro e w5 ⟨rfl, o5⟩
  have HB5 : Hid (Out 0 0 w w5 ∧ w5.heap[bd]? = _ ∧ w5.heap[bw]? = _) := ⟨HB4.out.1.trans o5, o5.heap HB4.out.2.1 (.inr (Nat.zero_le _)), o5.heap HB4.out.2.2 (.inr (Nat.zero_le _))⟩
  obtain ⟨x0, _⟩ := dmp_cells HB5.out.2.1
  clear f3 f4 f5 f6 f7 f8 f9 f10 f11 g3 g4 g5 g6 g7 g8 g9 g10 g11 e8 o5
  go_wp2_with fail
  obtain ⟨colA, A1, A2, A3, A4, A5, A6⟩ : ∃ colA, Kp B w5 b V X C colA none p ∧ (∀ g, (x 2).ownBlock = some g → colA g = 8) ∧ (∀ g, (x 4).ownBlock = some g → colA g = 7) ∧ (∀ g, (x 6).ownBlock = some g → colA g = 7) ∧ (colA bd = 7 ∧ colA bw = 7) ∧ Fix col colA w w5 := by
    have h1 := HB1.out.1
    have h2 := HB1.out.2.1
    have lt : ∀ t, t < 3 → ∀ g, (x (2 + 2 * t)).ownBlock = some g → g < bd := fun t ht g hg => by have := (HD.out.1 t ht).1.lt hg; omega
    have hc : ∀ y, y < w.heap.size → col y ≠ 9 → (if y = bd ∨ y = bw then 7 else if (x 2).ownBlock = some y then 8 else if (x 4).ownBlock = some y ∨ (x 6).ownBlock = some y then 7 else col y) = col y := fun y hy h9 => by
      rw [if_neg (by omega), if_neg (fun e => h9 ((HD.out.1 0 (by omega)).2.2.2 y e)), if_neg (fun e => by rcases e with e | e; exact h9 ((HD.out.1 1 (by omega)).2.2.2 y e); exact h9 ((HD.out.1 2 (by omega)).2.2.2 y e))]
    refine ⟨_, (HKp.out.recol (col' := fun y => if y = bd ∨ y = bw then 7 else if (x 2).ownBlock = some y then 8 else if (x 4).ownBlock = some y ∨ (x 6).ownBlock = some y then 7 else col y) hc).quiet HB5.out.1, fun g hg => ?_, fun g hg => ?_, fun g hg => ?_, ⟨?_, ?_⟩, ((Fix.refl col w).re fun k hk h7 => ?_).out HB5.out.1⟩
    · have := lt 0 (by omega) g hg
      show (if g = bd ∨ g = bw then 7 else if (x 2).ownBlock = some g then 8 else if (x 4).ownBlock = some g ∨ (x 6).ownBlock = some g then 7 else col g) = 8
      rw [if_neg (by omega), if_pos hg]
    · have := lt 1 (by omega) g hg
      show (if g = bd ∨ g = bw then 7 else if (x 2).ownBlock = some g then 8 else if (x 4).ownBlock = some g ∨ (x 6).ownBlock = some g then 7 else col g) = 7
      rw [if_neg (by omega), if_neg (HD.out.2 1 0 g (by omega) (by omega) (by omega) hg), if_pos (.inl hg)]
    · have := lt 2 (by omega) g hg
      show (if g = bd ∨ g = bw then 7 else if (x 2).ownBlock = some g then 8 else if (x 4).ownBlock = some g ∨ (x 6).ownBlock = some g then 7 else col g) = 7
      rw [if_neg (by omega), if_neg (HD.out.2 2 0 g (by omega) (by omega) (by omega) hg), if_pos (.inr hg)]
    · show (if bd = bd ∨ bd = bw then _ else _) = 7
      rw [if_pos (.inl rfl)]
    · show (if bw = bd ∨ bw = bw then _ else _) = 7
      rw [if_pos (.inr rfl)]
    · exact (hc k hk (by omega)).trans h7
  have HA1 := hid_mk (And.intro A3 (And.intro A4 (And.intro A5 A6)))
  have hMk0 := mark0_any A1 ((HD.out.1 0 (by omega)).1.quiet HB5.out.1) (HD.out.1 0 (by omega)).2.1 A2 HLe.out.2.1 (by have := HFs.out; omega)
  rw [show 2 + 2 * 0 = 2 from rfl, HEx.out.1] at hMk0
  have HMk0 := hid_mk hMk0
  clear A1 A2 A3 A4 A5 A6 hMk0 x0
  refine HMk0.out.mono ?_
  rintro e w6 ⟨rfl, V1, X1, col1, k1, k2, k3, k4⟩
  have hsz6 := k4.1.size
  have HB6 : Hid (w6.heap[bd]? = _ ∧ w6.heap[bw]? = _) := ⟨k4.heap HB5.out.2.1 HA1.out.2.2.1.1, k4.heap HB5.out.2.2 HA1.out.2.2.1.2⟩
  have g5 : ∀ t, t < 3 → ∀ g, (x (2 + 2 * t)).ownBlock = some g → g < w5.heap.size := fun t ht g hg => Nat.lt_of_lt_of_le ((HD.out.1 t ht).1.lt hg) HB5.out.1.size
  have hO4 : OwnF B w6 1 (x 4) (n 1) (f 1) := ((HD.out.1 1 (by omega)).1.quiet HB5.out.1).chg k4.1 (fun g hg => by rw [HA1.out.1 g hg]; omega)
  have hO6 : OwnF B w6 2 (x 6) (n 2) (f 2) := ((HD.out.1 2 (by omega)).1.quiet HB5.out.1).chg k4.1 (fun g hg => by rw [HA1.out.2.1 g hg]; omega)
  have c4 : ∀ g, (x 4).ownBlock = some g → col1 g = 7 := fun g hg => k4.2 g (g5 1 (by omega) g hg) (HA1.out.1 g hg)
  have c6 : ∀ g, (x 6).ownBlock = some g → col1 g = 7 := fun g hg => k4.2 g (g5 2 (by omega) g hg) (HA1.out.2.1 g hg)
  have d7 : col1 bd = 7 ∧ col1 bw = 7 := ⟨k4.2 bd (heap_lt HB5.out.2.1) HA1.out.2.2.1.1, k4.2 bw (heap_lt HB5.out.2.2) HA1.out.2.2.1.2⟩
  have F6 : Fix col col1 w w6 := HA1.out.2.2.2.trans k4
  obtain ⟨colB, B1, B2, B3, B4, B5⟩ : ∃ colB, Kp B w6 b V1 X1 C colB none p ∧ (∀ g, (x 4).ownBlock = some g → colB g = 8) ∧ (∀ g, (x 6).ownBlock = some g → colB g = 7) ∧ (colB bd = 7 ∧ colB bw = 7) ∧ Fix col colB w w6 := by
    have h1 := HB1.out.1
    have h2 := HB1.out.2.1
    refine ⟨fun y => if (x 4).ownBlock = some y then 8 else col1 y, k1.recol7 fun y hy _ h7 => if_neg (fun e => h7 (c4 y e)), fun g hg => if_pos hg, fun g hg => (if_neg (HD.out.2 2 1 g (by omega) (by omega) (by omega) hg)).trans (c6 g hg), ⟨(if_neg (fun e => by have := (HD.out.1 1 (by omega)).1.lt e; omega)).trans d7.1, (if_neg (fun e => by have := (HD.out.1 1 (by omega)).1.lt e; omega)).trans d7.2⟩, F6.re2 fun k hk h7 h8 => (if_neg (fun e => by have := (HD.out.1 1 (by omega)).2.2.2 k e; omega)).trans h8⟩
  have HA2 := hid_mk (And.intro B3 (And.intro B4 (And.intro B5 (And.intro k2 k3))))
  have HO6 := hid_mk hO6
  have hMk1 := mark1_any B1 hO4 (HD.out.1 1 (by omega)).2.1 B2 (K := F1) (by rw [(k3 9 (by omega) (by omega)).2, (k3 12 (by omega) (by omega)).2]; exact HLe.out.2.2.1) (by have := HFs.out; omega)
  rw [HEx.out.2.2.1] at hMk1
  have HMk1 := hid_mk hMk1
  obtain ⟨_, x1, _⟩ := dmp_cells HB6.out.1
  clear B1 B2 B3 B4 B5 hMk1 hO4 hO6 c4 c6 d7 F6 k1 k2 k3 k4 hsz6 g5
  go_wp2_with fail
  clear x1
  refine HMk1.out.mono ?_
  rintro e w7 ⟨rfl, V2, X2, col2, k1, k2, k3, k4⟩
  have HB7 : Hid (w7.heap[bd]? = _ ∧ w7.heap[bw]? = _) := ⟨k4.heap HB6.out.1 HA2.out.2.1.1, k4.heap HB6.out.2 HA2.out.2.1.2⟩
  have hO6 : OwnF B w7 2 (x 6) (n 2) (f 2) := HO6.out.chg k4.1 (fun g hg => by rw [HA2.out.1 g hg]; omega)
  have c6 : ∀ g, (x 6).ownBlock = some g → col2 g = 7 := fun g hg => k4.2 g (HO6.out.lt hg) (HA2.out.1 g hg)
  have F7 : Fix col col2 w w7 := HA2.out.2.2.1.trans k4
  obtain ⟨colC, B1, B2, B5⟩ : ∃ colC, Kp B w7 b V2 X2 C colC none p ∧ (∀ g, (x 6).ownBlock = some g → colC g = 8) ∧ Fix col colC w w7 := by
    refine ⟨fun y => if (x 6).ownBlock = some y then 8 else col2 y, k1.recol7 fun y hy _ h7 => if_neg (fun e => h7 (c6 y e)), fun g hg => if_pos hg, F7.re2 fun k hk h7 h8 => (if_neg (fun e => by have := (HD.out.1 2 (by omega)).2.2.2 k e; omega)).trans h8⟩
  have hX2 : X2 10 = X 10 ∧ X2 13 = X 13 := ⟨(k3 10 (by omega) (by omega)).2.trans (HA2.out.2.2.2.2 10 (by omega) (by omega)).2, (k3 13 (by omega) (by omega)).2.trans (HA2.out.2.2.2.2 13 (by omega) (by omega)).2⟩
  have hMk2 := mark2_any B1 hO6 (HD.out.1 2 (by omega)).2.1 B2 (K := F2) (by rw [hX2.1, hX2.2]; exact HLe.out.2.2.2) (by have := HFs.out; omega)
  rw [HEx.out.2.2.2.2.1] at hMk2
  have HMk2 := hid_mk hMk2
  have HA3 := hid_mk (And.intro B5 (And.intro k2 k3))
  obtain ⟨_, _, x2, _⟩ := dmp_cells HB7.out.1
  clear B1 B2 B5 hMk2 hO6 c6 F7 k1 k2 k3 k4 hX2 HMk1
  go_wp2_with fail
  clear x2
  refine HMk2.out.mono ?_
  rintro e w8 ⟨rfl, V3, X3, col3, k1, k2, k3, k4⟩
  have FIN : Hid (∃ V' X' col', Kp B w8 b V' X' C col' none p ∧ Lens X' N0 N2 (F0 + 8) (F1 + 8) (F2 + 8) ∧ (∀ j, j < 8 → V' j = V j ∧ X' j = X j) ∧ Fix col col' w w8) := by
    have sm : ∀ j, j < 8 → V3 j = V j ∧ X3 j = X j := fun j hj => by
      obtain ⟨y1, y2⟩ := k3 j (by omega) (by omega)
      obtain ⟨y3, y4⟩ := HA3.out.2.2 j (by omega) (by omega)
      obtain ⟨y5, y6⟩ := HA2.out.2.2.2.2 j (by omega) (by omega)
      exact ⟨y1.trans (y3.trans y5), y2.trans (y4.trans y6)⟩
    refine ⟨V3, X3, col3, k1, ⟨?_, ?_, ?_, k2⟩, sm, HA3.out.1.trans k4⟩
    · rw [(sm 2 (by omega)).2, (sm 3 (by omega)).2, (sm 4 (by omega)).2, (sm 5 (by omega)).2, (sm 6 (by omega)).2, (sm 7 (by omega)).2]
      exact HLe.out.1
    · rw [(k3 8 (by omega) (by omega)).2, (k3 11 (by omega) (by omega)).2, (HA3.out.2.2 8 (by omega) (by omega)).2, (HA3.out.2.2 11 (by omega) (by omega)).2]
      exact HA2.out.2.2.2.1
    · rw [(k3 9 (by omega) (by omega)).2, (k3 12 (by omega) (by omega)).2]
      exact HA3.out.2.1
  clear k1 k2 k3 k4
  go_wp2
  go_ret
  exact ⟨rfl, FIN.out⟩
end Go.Proofs.YtjbbkeoolodeaaaGreatDoor
