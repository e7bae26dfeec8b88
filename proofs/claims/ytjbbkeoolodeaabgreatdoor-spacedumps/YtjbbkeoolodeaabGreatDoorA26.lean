import Derived.Test.YtjbbkeoolodeaabGreatDoorA22
import Derived.Test.YtjbbkeoolodeaabGreatDoorA23
import Derived.Test.YtjbbkeoolodeaabGreatDoorA24
import Derived.Test.YtjbbkeoolodeaabGreatDoorA25
import Derived.Test.YtjbbkeoolodeaabGreatDoorA17
import Derived.Test.YtjbbkeoolodeaabGreatDoorA21
import Derived.Test.YtjbbkeoolodeaabGreatDoorA04
import Derived.Test.YtjbbkeoolodeaabGreatDoorA08
namespace Go.Proofs.YtjbbkeoolodeaabGreatDoor
open Go.RowKit
set_option linter.unusedVariables false
set_option maxRecDepth 100000
set_option maxHeartbeats 16000000
set_option linter.unusedSimpArgs false
def DIn (B : Nat) (w : World) (col : Nat → Nat) (x : Nat → Value) (n : Nat → Nat) (f : Nat → Nat → Nat → Int) : Prop :=
 (∀ t, t < 3 → OwnF B w t (x (2 + 2 * t)) (n t) (f t) ∧ n t ≤ 1536 ∧ ElAt w (x (3 + 2 * t)) (n t) (szK t) (f t) ∧ ∀ g, (x (2 + 2 * t)).ownBlock = some g → col g = 9) ∧ ∀ t s g, t < 3 → s < 3 → t ≠ s → (x (2 + 2 * t)).ownBlock = some g → (x (2 + 2 * s)).ownBlock ≠ some g
theorem q8f {B b : Nat} {w : World} {V : Nat → Value} {X : Nat → List Value} {C : Nat → Nat → Nat × (Nat → Nat → Int)} {col : Nat → Nat} {p : Nat → Nat} {x : Nat → Value} {n : Nat → Nat} {f : Nat → Nat → Nat → Int} {N0 N2 : Nat} {h0 h1 h2 h3 h4 h5 h6 h7 sr : Int} {q : Bool}
  (h : Kp B w b V X C col none p) (hl : ∀ t, t < 3 → ElAt w (x (2 + 2 * t)) (n t) (szK t) (f t) ∧ n t ≤ 1536 ∧ ElAt w (x (3 + 2 * t)) (n t) (szK t) (f t))
  (hM : (X 2).length = N0 ∧ (X 6).length = N2) (hN : N0 ≤ 100 ∧ N2 ≤ 100) (hmany : 30 < N0 + N2) :
  Calls Tryz.prog 42 #[.pointer (some ⟨b, 2, none⟩), .agg #[x 2, x 4, x 6, .int .i64 h0, .int .i64 h1, .int .i64 h2, .int .i64 h3, .int .i64 h4, .int .i64 h5, .int .i64 h6, .int .i64 h7, .int .i64 sr], .agg #[x 3, x 5, x 7, .int .i64 h0, .int .i64 h1, .int .i64 h2, .int .i64 h3, .int .i64 h4, .int .i64 h5, .int .i64 h6, .int .i64 h7, .int .i64 sr], .bool q] w fun e w' => e = .returned (.bool true) ∧ Out 0 0 w w' := by
 obtain ⟨a2, c2, ex2, ew⟩ := (hl 0 (by omega)).1; clear ew; rw [show 2 + 2 * 0 = 2 from rfl] at ex2; obtain ⟨a3, c3, ex3, ew⟩ := (hl 0 (by omega)).2.2; clear ew; rw [show 3 + 2 * 0 = 3 from rfl] at ex3; obtain ⟨a4, c4, ex4, ew⟩ := (hl 1 (by omega)).1; clear ew; rw [show 2 + 2 * 1 = 4 from rfl] at ex4; obtain ⟨a5, c5, ex5, ew⟩ := (hl 1 (by omega)).2.2; clear ew; rw [show 3 + 2 * 1 = 5 from rfl] at ex5; obtain ⟨a6, c6, ex6, ew⟩ := (hl 2 (by omega)).1; clear ew; rw [show 2 + 2 * 2 = 6 from rfl] at ex6; obtain ⟨a7, c7, ex7, ew⟩ := (hl 2 (by omega)).2.2; clear ew; rw [show 3 + 2 * 2 = 7 from rfl] at ex7; obtain ⟨m0, hm0⟩ : ∃ m, n 0 = m := ⟨_, rfl⟩
 rw [hm0] at ex2 ex3; obtain ⟨m1, hm1⟩ : ∃ m, n 1 = m := ⟨_, rfl⟩
 rw [hm1] at ex4 ex5; obtain ⟨m2, hm2⟩ : ∃ m, n 2 = m := ⟨_, rfl⟩
 rw [hm2] at ex6 ex7; have HS0 : Hid (∀ W, Out 0 0 w W → Calls Tryz.prog 84 #[.slice a2 m0 c2, .slice a3 m0 c3] W fun e w' => e = .returned (.bool true) ∧ Out 0 0 W w') := fun W o => by
  have q := z1k ((hl 0 (by omega)).1.quiet o) ((hl 0 (by omega)).2.2.quiet o) (by have := (hl 0 (by omega)).2.1; omega); rw [show 2 + 2 * 0 = 2 from rfl, show 3 + 2 * 0 = 3 from rfl, ex2, ex3] at q; exact q
 have HS1 : Hid (∀ W, Out 0 0 w W → Calls Tryz.prog 85 #[.slice a4 m1 c4, .slice a5 m1 c5] W fun e w' => e = .returned (.bool true) ∧ Out 0 0 W w') := fun W o => by
  have q := z0r ((hl 1 (by omega)).1.quiet o) ((hl 1 (by omega)).2.2.quiet o) (by have := (hl 1 (by omega)).2.1; omega); rw [show 2 + 2 * 1 = 4 from rfl, show 3 + 2 * 1 = 5 from rfl, ex4, ex5] at q; exact q
 have HS2 : Hid (∀ W, Out 0 0 w W → Calls Tryz.prog 73 #[.slice a6 m2 c6, .slice a7 m2 c7] W fun e w' => e = .returned (.bool true) ∧ Out 0 0 W w') := fun W o => by
  have q := z0e ((hl 2 (by omega)).1.quiet o) ((hl 2 (by omega)).2.2.quiet o) (by have := (hl 2 (by omega)).2.1; omega); rw [show 2 + 2 * 2 = 6 from rfl, show 3 + 2 * 2 = 7 from rfl, ex6, ex7] at q; exact q
 have HMany : Hid (∀ W, Out 0 0 w W → Calls Tryz.prog 74 #[.pointer (some ⟨b, 2, none⟩)] W fun e w' => e = .returned (.bool true) ∧ Out 0 0 W w') := fun W o => by
  have q := z9v (h.quiet o) hM.1 hM.2 hN; rw [show decide (30 < N0 + N2) = true from by simp; omega] at q; exact q
 obtain ⟨bd, hbd⟩ : ∃ bd, w.heap.size = bd := ⟨_, rfl⟩
 rw [ex2, ex3, ex4, ex5, ex6, ex7]; have HEx := Z0 (And.intro ex2 (And.intro ex3 (And.intro ex4 (And.intro ex5 (And.intro ex6 ex7))))); clear h hl hM hN hmany hm0 hm1 hm2 ex2 ex3 ex4 ex5 ex6 ex7; go_enter Tryz.func42, Tryz.ntmps42
 go_wp2_with fail; obtain ⟨w1, hw1⟩ : ∃ w1, (w.alloc (.cells #[.slice a2 m0 c2, .slice a4 m1 c4, .slice a6 m2 c6, .int .i64 h0, .int .i64 h1, .int .i64 h2, .int .i64 h3, .int .i64 h4, .int .i64 h5, .int .i64 h6, .int .i64 h7, .int .i64 sr] 81)).alloc (.cells #[.slice a3 m0 c3, .slice a5 m1 c5, .slice a7 m2 c7, .int .i64 h0, .int .i64 h1, .int .i64 h2, .int .i64 h3, .int .i64 h4, .int .i64 h5, .int .i64 h6, .int .i64 h7, .int .i64 sr] 81) = w1 := ⟨_, rfl⟩
 have o1 : Out 0 0 w w1 := by rw [← hw1]; exact ((Out.refl 0 0 w).alloc _).alloc _
 have fD : w1.heap[bd]? = some (.cells #[.slice a2 m0 c2, .slice a4 m1 c4, .slice a6 m2 c6, .int .i64 h0, .int .i64 h1, .int .i64 h2, .int .i64 h3, .int .i64 h4, .int .i64 h5, .int .i64 h6, .int .i64 h7, .int .i64 sr] 81 (0, 0)) := by rw [← hw1, ← hbd]; exact (heap_alloc_old _ _ (by simp)).trans (heap_alloc_new _ _)
 have fW : w1.heap[bd + 1]? = some (.cells #[.slice a3 m0 c3, .slice a5 m1 c5, .slice a7 m2 c7, .int .i64 h0, .int .i64 h1, .int .i64 h2, .int .i64 h3, .int .i64 h4, .int .i64 h5, .int .i64 h6, .int .i64 h7, .int .i64 sr] 81 (0, 0)) := by
  have q := heap_alloc_new (w.alloc (.cells #[.slice a2 m0 c2, .slice a4 m1 c4, .slice a6 m2 c6, .int .i64 h0, .int .i64 h1, .int .i64 h2, .int .i64 h3, .int .i64 h4, .int .i64 h5, .int .i64 h6, .int .i64 h7, .int .i64 sr] 81)) (.cells #[.slice a3 m0 c3, .slice a5 m1 c5, .slice a7 m2 c7, .int .i64 h0, .int .i64 h1, .int .i64 h2, .int .i64 h3, .int .i64 h4, .int .i64 h5, .int .i64 h6, .int .i64 h7, .int .i64 sr] 81); rw [World.size_alloc, hw1, hbd] at q; exact q
 obtain ⟨bw, hbw⟩ : ∃ bw, bd + 1 = bw := ⟨_, rfl⟩
 rw [hbw] at fW; (try rw [hw1]); (try rw [hbw]); have HB1 := Z0 (And.intro hbd (And.intro hbw (And.intro o1 (And.intro fD fW)))); clear hw1 hbd hbw o1 fD fW; refine (HS0.out _ HB1.out.2.2.1).mono ?_; rintro e w2 ⟨rfl, o2⟩; have HB2 : Hid (Out 0 0 w w2 ∧ w2.heap[bd]? = _ ∧ w2.heap[bw]? = _) := ⟨HB1.out.2.2.1.trans o2, o2.heap HB1.out.2.2.2.1 z0, o2.heap HB1.out.2.2.2.2 z0⟩
 obtain ⟨_, f1, _⟩ := Q5 HB2.out.2.1; obtain ⟨_, g1, _⟩ := Q5 HB2.out.2.2; clear o2; go_wp2_with fail; clear f1 g1; refine (HS1.out _ HB2.out.1).mono ?_; rintro e w3 ⟨rfl, o3⟩; have HB3 : Hid (Out 0 0 w w3 ∧ w3.heap[bd]? = _ ∧ w3.heap[bw]? = _) := ⟨HB2.out.1.trans o3, o3.heap HB2.out.2.1 z0, o3.heap HB2.out.2.2 z0⟩
 obtain ⟨_, _, f2, _⟩ := Q5 HB3.out.2.1; obtain ⟨_, _, g2, _⟩ := Q5 HB3.out.2.2; clear o3; go_wp2_with fail; clear f2 g2; refine (HS2.out _ HB3.out.1).mono ?_; rintro e w4 ⟨rfl, o4⟩; have HB4 : Hid (Out 0 0 w w4 ∧ w4.heap[bd]? = _ ∧ w4.heap[bw]? = _) := ⟨HB3.out.1.trans o4, o4.heap HB3.out.2.1 z0, o4.heap HB3.out.2.2 z0⟩
 obtain ⟨_, _, _, f3, f4, f5, f6, f7, f8, f9, f10, f11⟩ := Q5 HB4.out.2.1; obtain ⟨_, _, _, g3, g4, g5, g6, g7, g8, g9, g10, g11⟩ := Q5 HB4.out.2.2; have e8 := eq8 h0 h1 h2 h3 h4 h5 h6 h7 w4; clear o4; go_wp2_with fail; refine (HMany.out _ HB4.out.1).mono ?_; rintro e w5 ⟨rfl, o5⟩; have HB5 : Hid (Out 0 0 w w5 ∧ w5.heap[bd]? = _ ∧ w5.heap[bw]? = _) := ⟨HB4.out.1.trans o5, o5.heap HB4.out.2.1 z0, o5.heap HB4.out.2.2 z0⟩
 clear f3 f4 f5 f6 f7 f8 f9 f10 f11 g3 g4 g5 g6 g7 g8 g9 g10 g11 e8 o5; go_wp2; go_ret; exact ⟨rfl, HB5.out.1⟩
theorem q8r {B b : Nat} {w : World} {V : Nat → Value} {X : Nat → List Value} {C : Nat → Nat → Nat × (Nat → Nat → Int)} {col : Nat → Nat} {p : Nat → Nat} {x : Nat → Value} {n : Nat → Nat} {f : Nat → Nat → Nat → Int} {N0 N2 F0 F1 F2 : Nat} {h0 h1 h2 h3 h4 h5 h6 h7 sr : Int}
  (h : Kp B w b V X C col none p) (hd : DIn B w col x n f) (hM : x0v X N0 N2 F0 F1 F2) (hF : F0 ≤ 8000 ∧ F1 ≤ 8000 ∧ F2 ≤ 8000) (hfew : N0 + N2 ≤ 30) :
  Calls Tryz.prog 42 #[.pointer (some ⟨b, 2, none⟩), .agg #[x 2, x 4, x 6, .int .i64 h0, .int .i64 h1, .int .i64 h2, .int .i64 h3, .int .i64 h4, .int .i64 h5, .int .i64 h6, .int .i64 h7, .int .i64 sr], .agg #[x 3, x 5, x 7, .int .i64 h0, .int .i64 h1, .int .i64 h2, .int .i64 h3, .int .i64 h4, .int .i64 h5, .int .i64 h6, .int .i64 h7, .int .i64 sr], .bool false] w fun e w' => e = .returned (.bool true) ∧ ∃ V' X' col', Kp B w' b V' X' C col' none p ∧ x0v X' N0 N2 (F0 + 8) (F1 + 8) (F2 + 8) ∧ (∀ j, j < 8 → V' j = V j ∧ X' j = X j) ∧ Fix col col' w w' := by
 have hl : ∀ t, t < 3 → ElAt w (x (2 + 2 * t)) (n t) (szK t) (f t) ∧ n t ≤ 1536 ∧ ElAt w (x (3 + 2 * t)) (n t) (szK t) (f t) := fun t ht => ⟨(hd.1 t ht).1.el, (hd.1 t ht).2.1, (hd.1 t ht).2.2.1⟩
 have HD := Z0 hd; have HFs := Z0 hF; have HLe := Z0 hM; obtain ⟨a2, c2, ex2, ew⟩ := (hl 0 (by omega)).1; clear ew; rw [show 2 + 2 * 0 = 2 from rfl] at ex2; obtain ⟨a3, c3, ex3, ew⟩ := (hl 0 (by omega)).2.2; clear ew; rw [show 3 + 2 * 0 = 3 from rfl] at ex3; obtain ⟨a4, c4, ex4, ew⟩ := (hl 1 (by omega)).1; clear ew; rw [show 2 + 2 * 1 = 4 from rfl] at ex4; obtain ⟨a5, c5, ex5, ew⟩ := (hl 1 (by omega)).2.2; clear ew; rw [show 3 + 2 * 1 = 5 from rfl] at ex5; obtain ⟨a6, c6, ex6, ew⟩ := (hl 2 (by omega)).1; clear ew; rw [show 2 + 2 * 2 = 6 from rfl] at ex6; obtain ⟨a7, c7, ex7, ew⟩ := (hl 2 (by omega)).2.2; clear ew; rw [show 3 + 2 * 2 = 7 from rfl] at ex7; obtain ⟨m0, hm0⟩ : ∃ m, n 0 = m := ⟨_, rfl⟩
 rw [hm0] at ex2 ex3; obtain ⟨m1, hm1⟩ : ∃ m, n 1 = m := ⟨_, rfl⟩
 rw [hm1] at ex4 ex5; obtain ⟨m2, hm2⟩ : ∃ m, n 2 = m := ⟨_, rfl⟩
 rw [hm2] at ex6 ex7; have HS0 : Hid (∀ W, Out 0 0 w W → Calls Tryz.prog 84 #[.slice a2 m0 c2, .slice a3 m0 c3] W fun e w' => e = .returned (.bool true) ∧ Out 0 0 W w') := fun W o => by
  have q := z1k ((hl 0 (by omega)).1.quiet o) ((hl 0 (by omega)).2.2.quiet o) (by have := (hl 0 (by omega)).2.1; omega); rw [show 2 + 2 * 0 = 2 from rfl, show 3 + 2 * 0 = 3 from rfl, ex2, ex3] at q; exact q
 have HS1 : Hid (∀ W, Out 0 0 w W → Calls Tryz.prog 85 #[.slice a4 m1 c4, .slice a5 m1 c5] W fun e w' => e = .returned (.bool true) ∧ Out 0 0 W w') := fun W o => by
  have q := z0r ((hl 1 (by omega)).1.quiet o) ((hl 1 (by omega)).2.2.quiet o) (by have := (hl 1 (by omega)).2.1; omega); rw [show 2 + 2 * 1 = 4 from rfl, show 3 + 2 * 1 = 5 from rfl, ex4, ex5] at q; exact q
 have HS2 : Hid (∀ W, Out 0 0 w W → Calls Tryz.prog 73 #[.slice a6 m2 c6, .slice a7 m2 c7] W fun e w' => e = .returned (.bool true) ∧ Out 0 0 W w') := fun W o => by
  have q := z0e ((hl 2 (by omega)).1.quiet o) ((hl 2 (by omega)).2.2.quiet o) (by have := (hl 2 (by omega)).2.1; omega); rw [show 2 + 2 * 2 = 6 from rfl, show 3 + 2 * 2 = 7 from rfl, ex6, ex7] at q; exact q
 have HMany : Hid (∀ W, Out 0 0 w W → Calls Tryz.prog 74 #[.pointer (some ⟨b, 2, none⟩)] W fun e w' => e = .returned (.bool false) ∧ Out 0 0 W w') := fun W o => by
  have q := z9v (h.quiet o) hM.1.1 hM.1.2.2.2.2.1 (by omega); rw [show decide (30 < N0 + N2) = false from by simp; omega] at q; exact q
 have HKp := Z0 h; clear hd hF; obtain ⟨bd, hbd⟩ : ∃ bd, w.heap.size = bd := ⟨_, rfl⟩
 rw [ex2, ex3, ex4, ex5, ex6, ex7]; have HEx := Z0 (And.intro ex2 (And.intro ex3 (And.intro ex4 (And.intro ex5 (And.intro ex6 ex7))))); clear h hl hM hfew hm0 hm1 hm2 ex2 ex3 ex4 ex5 ex6 ex7; go_enter Tryz.func42, Tryz.ntmps42
 go_wp2_with fail; obtain ⟨w1, hw1⟩ : ∃ w1, (w.alloc (.cells #[.slice a2 m0 c2, .slice a4 m1 c4, .slice a6 m2 c6, .int .i64 h0, .int .i64 h1, .int .i64 h2, .int .i64 h3, .int .i64 h4, .int .i64 h5, .int .i64 h6, .int .i64 h7, .int .i64 sr] 81)).alloc (.cells #[.slice a3 m0 c3, .slice a5 m1 c5, .slice a7 m2 c7, .int .i64 h0, .int .i64 h1, .int .i64 h2, .int .i64 h3, .int .i64 h4, .int .i64 h5, .int .i64 h6, .int .i64 h7, .int .i64 sr] 81) = w1 := ⟨_, rfl⟩
 have o1 : Out 0 0 w w1 := by rw [← hw1]; exact ((Out.refl 0 0 w).alloc _).alloc _
 have fD : w1.heap[bd]? = some (.cells #[.slice a2 m0 c2, .slice a4 m1 c4, .slice a6 m2 c6, .int .i64 h0, .int .i64 h1, .int .i64 h2, .int .i64 h3, .int .i64 h4, .int .i64 h5, .int .i64 h6, .int .i64 h7, .int .i64 sr] 81 (0, 0)) := by rw [← hw1, ← hbd]; exact (heap_alloc_old _ _ (by simp)).trans (heap_alloc_new _ _)
 have fW : w1.heap[bd + 1]? = some (.cells #[.slice a3 m0 c3, .slice a5 m1 c5, .slice a7 m2 c7, .int .i64 h0, .int .i64 h1, .int .i64 h2, .int .i64 h3, .int .i64 h4, .int .i64 h5, .int .i64 h6, .int .i64 h7, .int .i64 sr] 81 (0, 0)) := by
  have q := heap_alloc_new (w.alloc (.cells #[.slice a2 m0 c2, .slice a4 m1 c4, .slice a6 m2 c6, .int .i64 h0, .int .i64 h1, .int .i64 h2, .int .i64 h3, .int .i64 h4, .int .i64 h5, .int .i64 h6, .int .i64 h7, .int .i64 sr] 81)) (.cells #[.slice a3 m0 c3, .slice a5 m1 c5, .slice a7 m2 c7, .int .i64 h0, .int .i64 h1, .int .i64 h2, .int .i64 h3, .int .i64 h4, .int .i64 h5, .int .i64 h6, .int .i64 h7, .int .i64 sr] 81); rw [World.size_alloc, hw1, hbd] at q; exact q
 obtain ⟨bw, hbw⟩ : ∃ bw, bd + 1 = bw := ⟨_, rfl⟩
 rw [hbw] at fW; (try rw [hw1]); (try rw [hbw]); have HB1 := Z0 (And.intro hbd (And.intro hbw (And.intro o1 (And.intro fD fW)))); clear hw1 hbd hbw o1 fD fW; refine (HS0.out _ HB1.out.2.2.1).mono ?_; rintro e w2 ⟨rfl, o2⟩; have HB2 : Hid (Out 0 0 w w2 ∧ w2.heap[bd]? = _ ∧ w2.heap[bw]? = _) := ⟨HB1.out.2.2.1.trans o2, o2.heap HB1.out.2.2.2.1 z0, o2.heap HB1.out.2.2.2.2 z0⟩
 obtain ⟨_, f1, _⟩ := Q5 HB2.out.2.1; obtain ⟨_, g1, _⟩ := Q5 HB2.out.2.2; clear o2; go_wp2_with fail; clear f1 g1; refine (HS1.out _ HB2.out.1).mono ?_; rintro e w3 ⟨rfl, o3⟩; have HB3 : Hid (Out 0 0 w w3 ∧ w3.heap[bd]? = _ ∧ w3.heap[bw]? = _) := ⟨HB2.out.1.trans o3, o3.heap HB2.out.2.1 z0, o3.heap HB2.out.2.2 z0⟩
 obtain ⟨_, _, f2, _⟩ := Q5 HB3.out.2.1; obtain ⟨_, _, g2, _⟩ := Q5 HB3.out.2.2; clear o3; go_wp2_with fail; clear f2 g2; refine (HS2.out _ HB3.out.1).mono ?_; rintro e w4 ⟨rfl, o4⟩; have HB4 : Hid (Out 0 0 w w4 ∧ w4.heap[bd]? = _ ∧ w4.heap[bw]? = _) := ⟨HB3.out.1.trans o4, o4.heap HB3.out.2.1 z0, o4.heap HB3.out.2.2 z0⟩
 obtain ⟨_, _, _, f3, f4, f5, f6, f7, f8, f9, f10, f11⟩ := Q5 HB4.out.2.1; obtain ⟨_, _, _, g3, g4, g5, g6, g7, g8, g9, g10, g11⟩ := Q5 HB4.out.2.2; have e8 := eq8 h0 h1 h2 h3 h4 h5 h6 h7 w4; clear o4; go_wp2_with fail; refine (HMany.out _ HB4.out.1).mono ?_; rintro e w5 ⟨rfl, o5⟩; have HB5 : Hid (Out 0 0 w w5 ∧ w5.heap[bd]? = _ ∧ w5.heap[bw]? = _) := ⟨HB4.out.1.trans o5, o5.heap HB4.out.2.1 z0, o5.heap HB4.out.2.2 z0⟩
 obtain ⟨x0, _⟩ := Q5 HB5.out.2.1; clear f3 f4 f5 f6 f7 f8 f9 f10 f11 g3 g4 g5 g6 g7 g8 g9 g10 g11 e8 o5; go_wp2_with fail; obtain ⟨colA, A1, A2, A3, A4, A5, A6⟩ : ∃ colA, Kp B w5 b V X C colA none p ∧ (∀ g, (x 2).ownBlock = some g → colA g = 8) ∧ (∀ g, (x 4).ownBlock = some g → colA g = 7) ∧ (∀ g, (x 6).ownBlock = some g → colA g = 7) ∧ (colA bd = 7 ∧ colA bw = 7) ∧ Fix col colA w w5 := by
  have h1 := HB1.out.1; have h2 := HB1.out.2.1; have lt : ∀ t, t < 3 → ∀ g, (x (2 + 2 * t)).ownBlock = some g → g < bd := fun t ht g hg => by have := (HD.out.1 t ht).1.lt hg; omega
  have hc : ∀ y, y < w.heap.size → col y ≠ 9 → (if y = bd ∨ y = bw then 7 else if (x 2).ownBlock = some y then 8 else if (x 4).ownBlock = some y ∨ (x 6).ownBlock = some y then 7 else col y) = col y := fun y hy h9 => by
   rw [if_neg (by omega), if_neg (fun e => h9 ((HD.out.1 0 (by omega)).2.2.2 y e)), if_neg (fun e => by rcases e with e | e; exact h9 ((HD.out.1 1 (by omega)).2.2.2 y e); exact h9 ((HD.out.1 2 (by omega)).2.2.2 y e))]
  refine ⟨_, (HKp.out.recol (col' := fun y => if y = bd ∨ y = bw then 7 else if (x 2).ownBlock = some y then 8 else if (x 4).ownBlock = some y ∨ (x 6).ownBlock = some y then 7 else col y) hc).quiet HB5.out.1, fun g hg => ?_, fun g hg => ?_, fun g hg => ?_, ⟨?_, ?_⟩, ((Fix.refl col w).re fun k hk h7 => ?_).out HB5.out.1⟩
  ·have := lt 0 (by omega) g hg
   show (if g = bd ∨ g = bw then 7 else if (x 2).ownBlock = some g then 8 else if (x 4).ownBlock = some g ∨ (x 6).ownBlock = some g then 7 else col g) = 8
   rw [if_neg (by omega), if_pos hg]
  ·have := lt 1 (by omega) g hg
   show (if g = bd ∨ g = bw then 7 else if (x 2).ownBlock = some g then 8 else if (x 4).ownBlock = some g ∨ (x 6).ownBlock = some g then 7 else col g) = 7
   rw [if_neg (by omega), if_neg (HD.out.2 1 0 g (by omega) (by omega) (by omega) hg), if_pos (.inl hg)]
  ·have := lt 2 (by omega) g hg
   show (if g = bd ∨ g = bw then 7 else if (x 2).ownBlock = some g then 8 else if (x 4).ownBlock = some g ∨ (x 6).ownBlock = some g then 7 else col g) = 7
   rw [if_neg (by omega), if_neg (HD.out.2 2 0 g (by omega) (by omega) (by omega) hg), if_pos (.inr hg)]
  ·show (if bd = bd ∨ bd = bw then _ else _) = 7
   rw [if_pos (.inl rfl)]
  ·show (if bw = bd ∨ bw = bw then _ else _) = 7
   rw [if_pos (.inr rfl)]
  ·exact (hc k hk (by omega)).trans h7
 have HA1 := Z0 (And.intro A3 (And.intro A4 (And.intro A5 A6))); have hMk0 := q3d A1 ((HD.out.1 0 (by omega)).1.quiet HB5.out.1) (HD.out.1 0 (by omega)).2.1 A2 HLe.out.2.1 (by have := HFs.out; omega); rw [show 2 + 2 * 0 = 2 from rfl, HEx.out.1] at hMk0; have HMk0 := Z0 hMk0; clear A1 A2 A3 A4 A5 A6 hMk0 x0; refine HMk0.out.mono ?_; rintro e w6 ⟨rfl, V1, X1, col1, k1, k2, k3, k4⟩; have hsz6 := k4.1.size; have HB6 : Hid (w6.heap[bd]? = _ ∧ w6.heap[bw]? = _) := ⟨k4.heap HB5.out.2.1 HA1.out.2.2.1.1, k4.heap HB5.out.2.2 HA1.out.2.2.1.2⟩
 have g5 : ∀ t, t < 3 → ∀ g, (x (2 + 2 * t)).ownBlock = some g → g < w5.heap.size := fun t ht g hg => Nat.lt_of_lt_of_le ((HD.out.1 t ht).1.lt hg) HB5.out.1.size
 have hO4 : OwnF B w6 1 (x 4) (n 1) (f 1) := ((HD.out.1 1 (by omega)).1.quiet HB5.out.1).chg k4.1 (fun g hg => by rw [HA1.out.1 g hg]; omega); have hO6 : OwnF B w6 2 (x 6) (n 2) (f 2) := ((HD.out.1 2 (by omega)).1.quiet HB5.out.1).chg k4.1 (fun g hg => by rw [HA1.out.2.1 g hg]; omega); have c4 : ∀ g, (x 4).ownBlock = some g → col1 g = 7 := fun g hg => k4.2 g (g5 1 (by omega) g hg) (HA1.out.1 g hg)
 have c6 : ∀ g, (x 6).ownBlock = some g → col1 g = 7 := fun g hg => k4.2 g (g5 2 (by omega) g hg) (HA1.out.2.1 g hg)
 have d7 : col1 bd = 7 ∧ col1 bw = 7 := ⟨k4.2 bd (Q4 HB5.out.2.1) HA1.out.2.2.1.1, k4.2 bw (Q4 HB5.out.2.2) HA1.out.2.2.1.2⟩
 have F6 : Fix col col1 w w6 := HA1.out.2.2.2.trans k4; obtain ⟨colB, B1, B2, B3, B4, B5⟩ : ∃ colB, Kp B w6 b V1 X1 C colB none p ∧ (∀ g, (x 4).ownBlock = some g → colB g = 8) ∧ (∀ g, (x 6).ownBlock = some g → colB g = 7) ∧ (colB bd = 7 ∧ colB bw = 7) ∧ Fix col colB w w6 := by
  have h1 := HB1.out.1; have h2 := HB1.out.2.1; refine ⟨fun y => if (x 4).ownBlock = some y then 8 else col1 y, k1.recol7 fun y hy _ h7 => if_neg (fun e => h7 (c4 y e)), fun g hg => if_pos hg, fun g hg => (if_neg (HD.out.2 2 1 g (by omega) (by omega) (by omega) hg)).trans (c6 g hg), ⟨(if_neg (fun e => by have := (HD.out.1 1 (by omega)).1.lt e; omega)).trans d7.1, (if_neg (fun e => by have := (HD.out.1 1 (by omega)).1.lt e; omega)).trans d7.2⟩, F6.re2 fun k hk h7 h8 => (if_neg (fun e => by have := (HD.out.1 1 (by omega)).2.2.2 k e; omega)).trans h8⟩
 have HA2 := Z0 (And.intro B3 (And.intro B4 (And.intro B5 (And.intro k2 k3)))); have HO6 := Z0 hO6; have hMk1 := q3i B1 hO4 (HD.out.1 1 (by omega)).2.1 B2 (K := F1) (by rw [(k3 9 (by omega) (by omega)).2, (k3 12 (by omega) (by omega)).2]; exact HLe.out.2.2.1) (by have := HFs.out; omega); rw [HEx.out.2.2.1] at hMk1; have HMk1 := Z0 hMk1; obtain ⟨_, x1, _⟩ := Q5 HB6.out.1; clear B1 B2 B3 B4 B5 hMk1 hO4 hO6 c4 c6 d7 F6 k1 k2 k3 k4 hsz6 g5; go_wp2_with fail; clear x1; refine HMk1.out.mono ?_; rintro e w7 ⟨rfl, V2, X2, col2, k1, k2, k3, k4⟩; have HB7 : Hid (w7.heap[bd]? = _ ∧ w7.heap[bw]? = _) := ⟨k4.heap HB6.out.1 HA2.out.2.1.1, k4.heap HB6.out.2 HA2.out.2.1.2⟩
 have hO6 : OwnF B w7 2 (x 6) (n 2) (f 2) := HO6.out.chg k4.1 (fun g hg => by rw [HA2.out.1 g hg]; omega); have c6 : ∀ g, (x 6).ownBlock = some g → col2 g = 7 := fun g hg => k4.2 g (HO6.out.lt hg) (HA2.out.1 g hg)
 have F7 : Fix col col2 w w7 := HA2.out.2.2.1.trans k4; obtain ⟨colC, B1, B2, B5⟩ : ∃ colC, Kp B w7 b V2 X2 C colC none p ∧ (∀ g, (x 6).ownBlock = some g → colC g = 8) ∧ Fix col colC w w7 := by
  refine ⟨fun y => if (x 6).ownBlock = some y then 8 else col2 y, k1.recol7 fun y hy _ h7 => if_neg (fun e => h7 (c6 y e)), fun g hg => if_pos hg, F7.re2 fun k hk h7 h8 => (if_neg (fun e => by have := (HD.out.1 2 (by omega)).2.2.2 k e; omega)).trans h8⟩
 have hX2 : X2 10 = X 10 ∧ X2 13 = X 13 := ⟨(k3 10 (by omega) (by omega)).2.trans (HA2.out.2.2.2.2 10 (by omega) (by omega)).2, (k3 13 (by omega) (by omega)).2.trans (HA2.out.2.2.2.2 13 (by omega) (by omega)).2⟩
 have hMk2 := q2g B1 hO6 (HD.out.1 2 (by omega)).2.1 B2 (K := F2) (by rw [hX2.1, hX2.2]; exact HLe.out.2.2.2) (by have := HFs.out; omega); rw [HEx.out.2.2.2.2.1] at hMk2; have HMk2 := Z0 hMk2; have HA3 := Z0 (And.intro B5 (And.intro k2 k3)); obtain ⟨_, _, x2, _⟩ := Q5 HB7.out.1; clear B1 B2 B5 hMk2 hO6 c6 F7 k1 k2 k3 k4 hX2 HMk1; go_wp2_with fail; clear x2; refine HMk2.out.mono ?_; rintro e w8 ⟨rfl, V3, X3, col3, k1, k2, k3, k4⟩; have FIN : Hid (∃ V' X' col', Kp B w8 b V' X' C col' none p ∧ x0v X' N0 N2 (F0 + 8) (F1 + 8) (F2 + 8) ∧ (∀ j, j < 8 → V' j = V j ∧ X' j = X j) ∧ Fix col col' w w8) := by
  have sm : ∀ j, j < 8 → V3 j = V j ∧ X3 j = X j := fun j hj => by
   obtain ⟨y1, y2⟩ := k3 j (by omega) (by omega); obtain ⟨y3, y4⟩ := HA3.out.2.2 j (by omega) (by omega); obtain ⟨y5, y6⟩ := HA2.out.2.2.2.2 j (by omega) (by omega); exact ⟨y1.trans (y3.trans y5), y2.trans (y4.trans y6)⟩
  refine ⟨V3, X3, col3, k1, ⟨?_, ?_, ?_, k2⟩, sm, HA3.out.1.trans k4⟩
  ·rw [(sm 2 (by omega)).2, (sm 3 (by omega)).2, (sm 4 (by omega)).2, (sm 5 (by omega)).2, (sm 6 (by omega)).2, (sm 7 (by omega)).2]; exact HLe.out.1
  ·rw [(k3 8 (by omega) (by omega)).2, (k3 11 (by omega) (by omega)).2, (HA3.out.2.2 8 (by omega) (by omega)).2, (HA3.out.2.2 11 (by omega) (by omega)).2]; exact HA2.out.2.2.2.1
  ·rw [(k3 9 (by omega) (by omega)).2, (k3 12 (by omega) (by omega)).2]; exact HA3.out.2.1
 clear k1 k2 k3 k4; go_wp2; go_ret; exact ⟨rfl, FIN.out⟩
def fW (st : Sp) (j _i : Nat) : Int := st.W j
def fP (st : Sp) (j i : Nat) : Int := fld (st.S ((j * 3 + i) / 3)) ((j * 3 + i) % 3)
def fO (l : List (Nat × Blk)) (j i : Nat) : Int := if i = 0 then ((atB l j).1 : Int) else if i = 1 then (atB l j).2.1 else if i = 2 then (atB l j).2.2.1 else if i = 3 then (atB l j).2.2.2.1 else (atB l j).2.2.2.2
theorem j6q : ∀ (l : List (Nat × Blk)) (j i : Nat), j < l.length → i < 5 → (bks l)[j * 5 + i]? = some (.int .i64 (fO l j i))
 | [], j, i, hj, _ => by simp at hj
 | q :: l, 0, i, _, hi => by
  have : i = 0 ∨ i = 1 ∨ i = 2 ∨ i = 3 ∨ i = 4 := by omega
  rcases this with rfl | rfl | rfl | rfl | rfl <;> rfl
 | q :: l, j + 1, i, hj, hi => by
  have ih := j6q l j i (by simpa using hj) hi; have e : fO (q :: l) (j + 1) i = fO l j i := by unfold fO atB; simp
  rw [q5v, e, show (j + 1) * 5 + i = (j * 5 + i) + 5 from by omega]; simpa using ih
end Go.Proofs.YtjbbkeoolodeaabGreatDoor
namespace Go.Proofs.YtjbbkeoolodeaabGreatDoor
open Go.ChangeShapes Go.WideShapes Go.ChangeAt Go.RowKit
set_option linter.unusedVariables false
set_option maxRecDepth 100000
set_option maxHeartbeats 16000000
set_option linter.unusedSimpArgs false
theorem q3v (j : Nat) (h : j < 7) : (j < 3 ∧ J2 (j + 1 : Nat) = J2 j + 2) ∨ (3 ≤ j ∧ j < 6 ∧ J2 (j + 1 : Nat) = J2 j + 4) ∨ (6 ≤ j ∧ J2 (j + 1 : Nat) = J2 j + 12) := by
 have hi : j = 0 ∨ j = 1 ∨ j = 2 ∨ j = 3 ∨ j = 4 ∨ j = 5 ∨ j = 6 := by omega
 rcases hi with rfl | rfl | rfl | rfl | rfl | rfl | rfl <;> decide
theorem z2p (c : Int) : 0 ≤ J2 c ∧ J2 c ≤ 32 := by rcases z0d c with ⟨x, y, hx, hy, c0, c7, h⟩ | ⟨hx, hy, hc⟩ <;> omega
theorem z4d (c : Int) : 0 ≤ J6 c ∧ J6 c ≤ 32 := by rcases z0d c with ⟨x, y, hx, hy, c0, c7, h⟩ | ⟨hx, hy, hc⟩ <;> omega
theorem z5y (c : Int) (w : World) : Calls Tryz.prog 109 #[.int .i64 c] w fun e w' => e = .returned (.int .i64 (J2 c)) ∧ w' = w := by
 by_cases hc : 0 ≤ c ∧ c < 8
 ·obtain ⟨h1, h2⟩ := hc; obtain ⟨k, rfl⟩ : ∃ k : Nat, c = k := ⟨c.toNat, by omega⟩
  have hk : k < 8 := by omega
  go_enter Tryz.func109, Tryz.ntmps109
  go_wp2; go_loopw [3, 4] (fun n i wr => ∃ j : Nat, j ≤ k ∧ i = .int .i64 j ∧ n = .int .i64 (J2 j) ∧ wr = w) (fun _ i _ => k - (intOf i).toNat)
  case atStart => exact ⟨0, by omega, by simp, by rfl, rfl⟩
  case round =>
   obtain ⟨j, hj, rfl, rfl, rfl⟩ := hrel; by_cases hjk : j < k
   ·have hjk' : (j : Int) < k := by omega
    have hr := z2p j; have hs := q3v j (by omega); generalize hx : J2 (j + 1 : Nat) = x' at hs
    generalize J2 j = x at *
    obtain ⟨r1, r2⟩ := hr; rcases hs with ⟨s1, s2⟩ | ⟨s1, s2, s3⟩ | ⟨s1, s2⟩
    all_goals
     go_wp2; go_roundw
     case rel => exact ⟨j + 1, by omega, by simp, by rw [hx]; simp; omega, trivial⟩
     case measure => simp [intOf]; omega
   ·have : j = k := by omega
    subst this; go_wp2; go_ret; exact ⟨rfl, rfl⟩
 ·have hc : c < 0 ∨ 8 ≤ c := by omega
  rw [z5h hc]; rcases hc with h | h
  all_goals
   go_enter Tryz.func109, Tryz.ntmps109
   go_wp2; go_ret; exact ⟨rfl, rfl⟩
theorem z3v (c v : Int) (h : J2 c = v) (w : World) : Calls Tryz.prog 109 #[.int .i64 c] w fun e w' => e = .returned (.int .i64 v) ∧ w' = w := by
 rw [← h]; exact z5y c w
theorem fit (c : Int) (x y : Int) (hx : J2 c = x) (hy : J6 c = y) (n : Nat) : 0 < x → (((n + 1 : Int) * x ≤ 64) ↔ (n : Int) < y) := by
 intro h0; rcases z0d c with ⟨x', y', hx', hy', c0, c7, h⟩ | ⟨hx', hy', hc⟩
 ·rw [hx] at hx'; rw [hy] at hy'; subst hx' hy'; rcases h with ⟨_, rfl, rfl⟩ | ⟨_, rfl, rfl⟩ | ⟨_, rfl, rfl⟩ | ⟨_, rfl, rfl⟩ | ⟨_, rfl, rfl⟩ | ⟨_, rfl, rfl⟩ | ⟨_, rfl, rfl⟩ | ⟨_, rfl, rfl⟩ <;> omega
 ·omega
theorem q8e {c : Int} (h : J2 c = 0) : J6 c = 0 := by rcases z0d c with ⟨x, y, hx, hy, c0, c7, h⟩ | ⟨hx, hy, hc⟩ <;> omega
theorem z2g (c : Int) (w : World) : Calls Tryz.prog 110 #[.int .i64 c] w fun e w' => e = .returned (.int .i64 (J6 c)) ∧ w' = w := by
 have H := Z0 (z3v c _ rfl); have HF := Z0 (fit c _ _ rfl rfl); have HN := Z0 (q8e (c := c)); obtain ⟨x1, x2⟩ := z2p c; obtain ⟨y1, y2⟩ := z4d c; generalize J6 c = y at *
 generalize J2 c = x at *
 go_enter Tryz.func110, Tryz.ntmps110
 go_wp2_with (go_at_call 109; refine Z5 (H.out _) ?_); go_loopw [4] (fun n wr => ∃ k : Nat, (k : Int) ≤ y ∧ n = .int .i64 k ∧ wr = w) (fun n _ => 32 - (intOf n).toNat)
 case atStart => exact ⟨0, by omega, by simp, rfl⟩
 case round =>
  obtain ⟨k, hk, rfl, rfl⟩ := hrel; by_cases hx : x = 0
  ·have hy := HN.out hx; subst hx; have : k = 0 := by omega
   subst this hy; go_wp2; go_ret; exact ⟨rfl, rfl⟩
  ·have hx0 : 0 < x := by omega
   have hf := HF.out k hx0; have hp1 : 0 ≤ ((k : Int) + 1) * x := Int.mul_nonneg (by omega) x1; have hp2 : ((k : Int) + 1) * x ≤ 33 * 32 := Int.mul_le_mul (by omega) x2 x1 (by omega); have hwr : wrap64 (((k : Int) + 1) * x) = ((k : Int) + 1) * x := by unfold wrap64; omega
   by_cases hky : (k : Int) < y
   ·have hz := hf.2 hky; go_wp2; go_roundw
    case rel => exact ⟨k + 1, by omega, by simp, trivial⟩
    case measure => simp [intOf]; omega
   ·have : y = k := by omega
    have hz : 64 < ((k : Int) + 1) * x := by have := fun h => hky (hf.1 h); omega
    subst this; go_wp2; go_ret; exact ⟨rfl, rfl⟩
theorem z5z (c v : Int) (h : J6 c = v) (w : World) : Calls Tryz.prog 110 #[.int .i64 c] w fun e w' => e = .returned (.int .i64 v) ∧ w' = w := by
 rw [← h]; exact z2g c w
theorem z1u (s : Int) (w : World) : Calls Tryz.prog 57 #[.int .i64 s] w fun e w' => e = .returned (.int .i64 (ofV s)) ∧ w' = w := by
 by_cases hs : 1 ≤ s ∧ s ≤ 1024
 ·obtain ⟨s1, s2⟩ := hs; have HF := Z0 (q5w s1 s2); obtain ⟨q1, q2⟩ := j6o s1 s2; generalize ofV s = q at *
  go_enter Tryz.func57, Tryz.ntmps57
  go_wp2; go_loopw [3] (fun i wr => ∃ k : Nat, (k : Int) ≤ q ∧ i = .int .i64 k ∧ wr = w) (fun i _ => 8 - (intOf i).toNat)
  case atStart => exact ⟨0, by omega, by simp, rfl⟩
  case round =>
   obtain ⟨k, hk, rfl, rfl⟩ := hrel; by_cases hk8 : k < 8
   ·have hf := HF.out k hk8; have hk8' : (k : Int) < 8 := by omega
    have HW := Z0 (z3v k _ rfl); generalize J2 k = x at hf HW
    by_cases hx : x < s
    ·have hkq := hf.1 hx; go_wp2_with (go_at_call 109; refine Z5 (HW.out _) ?_); go_roundw
     case rel => exact ⟨k + 1, by omega, by simp, trivial⟩
     case measure => simp [intOf]; omega
    ·have hx' : s ≤ x := by omega
     have hkq : q = k := by have := fun h => hx (hf.2 h); omega
     subst hkq; go_wp2_with (go_at_call 109; refine Z5 (HW.out _) ?_); go_ret; exact ⟨rfl, rfl⟩
   ·have hkq : k = 8 := by omega
    have : q = 8 := by omega
    subst hkq this; go_wp2; go_ret; exact ⟨rfl, rfl⟩
 ·have hs : s < 1 ∨ 1024 < s := by omega
  rw [q9z hs]; rcases hs with h | h
  all_goals
   go_enter Tryz.func57, Tryz.ntmps57
   go_wp2; go_ret; exact ⟨rfl, rfl⟩
theorem q5z (s v : Int) (h : ofV s = v) (w : World) : Calls Tryz.prog 57 #[.int .i64 s] w fun e w' => e = .returned (.int .i64 v) ∧ w' = w := by
 rw [← h]; exact z1u s w
theorem z2q (s : Int) (w : World) : Calls Tryz.prog 107 #[.int .i64 s] w fun e w' => e = .returned (.int .i64 (J4 s)) ∧ w' = w := by
 by_cases hs : 32 < s ∧ s ≤ 1024
 ·have HO := Z0 (q5z s 8 (ofV_eight.2 hs)); have hp : J4 s = (s + 63) / 64 := by unfold J4; rw [if_pos hs]
  rw [hp]; obtain ⟨s1, s2⟩ := hs; have HF : ∀ n : Nat, ((n : Int) * 64 < s ↔ (n : Int) < (s + 63) / 64) := by intro n; omega
  have hq : 0 ≤ (s + 63) / 64 ∧ (s + 63) / 64 ≤ 16 := by omega
  obtain ⟨q1, q2⟩ := hq; have HF := Z0 HF; clear hp; generalize (s + 63) / 64 = q at *
  go_enter Tryz.func107, Tryz.ntmps107
  go_wp2_with (go_at_call 57; refine Z5 (HO.out _) ?_); go_loopw [3] (fun i wr => ∃ k : Nat, (k : Int) ≤ q ∧ i = .int .i64 k ∧ wr = w) (fun i _ => 16 - (intOf i).toNat)
  case atStart => exact ⟨0, by omega, by simp, rfl⟩
  case round =>
   obtain ⟨k, hk, rfl, rfl⟩ := hrel; have hf := HF.out k; by_cases hx : (k : Int) < q
   ·have hkq := hf.2 hx; go_wp2; go_roundw
    case rel => exact ⟨k + 1, by omega, by simp, trivial⟩
    case measure => simp [intOf]; omega
   ·have hkq : q = k := by omega
    have hx' : s ≤ k * 64 := by have := fun h => hx (hf.1 h); omega
    subst hkq; go_wp2; go_ret; exact ⟨rfl, rfl⟩
 ·have hq : (ofV s != 8) = true := by simpa using fun h => hs (ofV_eight.1 h)
  have hp : J4 s = 0 := by unfold J4; rw [if_neg hs]
  have HO := Z0 (q5z s _ rfl); rw [hp]; generalize ofV s = q at *
  clear hp; go_enter Tryz.func107, Tryz.ntmps107
  go_wp2_with (go_at_call 57; refine Z5 (HO.out _) ?_); go_ret; exact ⟨rfl, rfl⟩
theorem z5v (c i : Int) (w : World) : Calls Tryz.prog 111 #[.int .i64 c, .int .i64 i] w fun e w' => e = .returned (.int .i64 (z0o c i)) ∧ w' = w := by
 obtain ⟨b2, b1⟩ := z4d c; have hw := z2p c; by_cases hi : 0 ≤ i ∧ i < J6 c
 ·obtain ⟨i1, i2⟩ := hi; have hp1 : 0 ≤ i * J2 c := Int.mul_nonneg i1 hw.1; have hp2 : i * J2 c ≤ 32 * 32 := Int.mul_le_mul (by omega) hw.2 hw.1 (by omega); have hs : z0o c i = i * J2 c := by unfold z0o; rw [if_pos ⟨i1, i2⟩]
  rw [hs]; have HB := Z0 (z5z c _ rfl); have HW := Z0 (z3v c _ rfl); clear hs hw; generalize J6 c = y at *
  generalize J2 c = x at *
  have hwr : wrap64 (i * x) = i * x := by unfold wrap64; omega
  clear hp1 hp2; go_enter Tryz.func111, Tryz.ntmps111
  go_wp2_with (first
   | (go_at_call 110; refine Z5 (HB.out _) ?_)
   | (go_at_call 109; refine Z5 (HW.out _) ?_))
  go_ret; refine ⟨U3 ?_, rfl⟩; first | rfl | exact hwr
 ·have hs : z0o c i = -1 := by unfold z0o; rw [if_neg hi]
  rw [hs]; have HB := Z0 (z5z c _ rfl); clear hs hw b1 b2; generalize J6 c = y at *
  have hi : i < 0 ∨ (0 ≤ i ∧ y ≤ i) := by omega
  rcases hi with h | ⟨h1, h2⟩
  all_goals
   go_enter Tryz.func111, Tryz.ntmps111
   go_wp2_with (go_at_call 110; refine Z5 (HB.out _) ?_); go_ret; exact ⟨rfl, rfl⟩
theorem q4y (a k n : Int) (w : World) : Calls Tryz.prog 144 #[.int .i64 a, .int .i64 k, .int .i64 n] w fun e w' => e = .returned (.bool (z9m a k n)) ∧ w' = w := by
 go_enter Tryz.func144, Tryz.ntmps144
 go_wp2
 all_goals go_ret
 all_goals refine ⟨K8 ?_, rfl⟩
 all_goals (unfold z9m; rw [Bool.eq_iff_iff]; simp; try omega)
theorem j0p (x f : Int) : (0 + x * f) % 17592186044416 = x * f % 17592186044416 := by rw [Int.zero_add]
theorem q1w (v : Int) : 0 ≤ v % 17592186044416 ∧ v % 17592186044416 < 17592186044416 := ⟨Int.emod_nonneg _ (by decide), Int.emod_lt_of_pos _ (by decide)⟩
theorem half (z : Int) (h : 0 ≤ z) (h2 : z < 17179869184) : wrap64 (z.tdiv 2) = z / 2 := by
 rw [Int.tdiv_eq_ediv_of_nonneg h]; exact B8 _ (by omega) (by omega)
theorem done (s d : Int) (x : Int) (h : (s + 0 * d) % 17592186044416 = x * 10872568911861 % 17592186044416) (s0 : 0 ≤ s) (s1 : s < 17592186044416) : s = z1n x := by
 unfold z1n; rw [← h, Int.zero_mul, Int.add_zero, Int.emod_eq_of_lt s0 s1]
theorem q4j (x : Int) (w : World) (h1 : 0 ≤ x) (h2 : x < 17179869184) : Calls Tryz.prog 145 #[.int .i64 x] w fun e w' => e = .returned (.int .i64 (z1n x)) ∧ w' = w := by
 have X1 := Z0 h1; have X2 := Z0 h2; clear h1 h2; have D := Z0 (fun s d => done s d x); generalize z1n x = r at *
 go_enter Tryz.func145, Tryz.ntmps145
 go_wp2; go_loopw [0, 3, 4] (fun z s d wr => ∃ z' s' d' : Int, z = .int .i64 z' ∧ s = .int .i64 s' ∧ d = .int .i64 d' ∧ 0 ≤ z' ∧ Hid (z' < 17179869184) ∧ 0 ≤ s' ∧ s' < 17592186044416 ∧ 0 ≤ d' ∧ d' < 17592186044416 ∧ Hid ((s' + z' * d') % 17592186044416 = x * 10872568911861 % 17592186044416) ∧ wr = w) (fun z _ _ _ => (intOf z).toNat)
 case atStart => exact ⟨x, 0, 10872568911861, rfl, rfl, rfl, X1.out, X2, by decide, by decide, by decide, by decide, Z0 (j0p x _), rfl⟩
 case round =>
  clear X1 X2; obtain ⟨z, s, d, rfl, rfl, rfl, z0, Z1, s0, s1, d0, d1, HJ, rfl⟩ := hrel; by_cases hz : 0 < z
  ·have hr1 : 0 ≤ z % 2 := by omega
   have hr2 : z % 2 < 2 := by omega
   have hh := half z z0 Z1.out; have Z2 : Hid (0 ≤ z / 2 ∧ z / 2 < 17179869184 ∧ z / 2 < z) := Z0 (by have := Z1.out; omega); have R1 := Z0 (q1w (d + d)); by_cases ho : z % 2 = 1
   ·have HK := Z0 (q8q HJ.out ho); have R2 := Z0 (q1w (s + d)); clear HJ; go_wp2; go_roundw
    case rel =>
     rw [hh]; exact ⟨_, _, _, rfl, rfl, rfl, Z2.out.1, Z0 Z2.out.2.1, R2.out.1, R2.out.2, R1.out.1, R1.out.2, HK, trivial⟩
    case measure => have := Z2.out.2.2; rw [hh]; simp [intOf]; omega
   ·have HK := Z0 (q4a HJ.out ho); clear HJ; have ho' : (z % 2 == 1) = false := by simpa using ho
    go_wp2; go_roundw
    case rel =>
     rw [hh]; exact ⟨_, _, _, rfl, rfl, rfl, Z2.out.1, Z0 Z2.out.2.1, s0, s1, R1.out.1, R1.out.2, HK, trivial⟩
    case measure => have := Z2.out.2.2; rw [hh]; simp [intOf]; omega
  ·have hz0 : z = 0 := by omega
   subst hz0; have he := D.out s d HJ.out s0 s1; go_wp2; go_ret; exact ⟨rfl, rfl⟩
theorem z7y (a k n : Int) (w : World) : Calls Tryz.prog 114 #[.int .i64 a, .int .i64 k, .int .i64 n] w fun e w' => e = .returned (.int .i64 (X9 a k n)) ∧ w' = w := by
 have G := Z0 (q4y a k n); by_cases h : z0n a k n
 ·obtain ⟨x1, x2⟩ := q4r h; obtain ⟨p1, p2⟩ := q8m a k n; obtain ⟨q1, q2⟩ := z5g (xV a k n); have hx := rfl (a := xV a k n); conv at hx => lhs; unfold xV
  have S := Z0 (fun w => q4j (xV a k n) w x1 x2); rw [z6x h] at G; have hm := z7t h; generalize z1n (xV a k n) = s at *
  generalize xV a k n = x at *
  generalize X9 a k n = r at *
  unfold z0n at h; have e1 : wrap64 (a * 65536) = a * 65536 := B8 _ (by omega) (by omega); have e2 : wrap64 (k * 2048) = k * 2048 := B8 _ (by omega) (by omega); have e3 : wrap64 (a * 65536 + k * 2048) = a * 65536 + k * 2048 := B8 _ (by omega) (by omega); have e4 : wrap64 (a * 65536 + k * 2048 + n) = x := by rw [hx]; exact B8 _ (by omega) (by omega)
  have e5 : wrap64 (n * 32) = n * 32 := B8 _ (by omega) (by omega); have e6 : wrap64 (s * 65536) = s * 65536 := B8 _ (by omega) (by omega); have e7 : wrap64 (k + n * 32) = k + n * 32 := B8 _ (by omega) (by omega); have e8 : wrap64 (k + n * 32 + s * 65536) = k + n * 32 + s * 65536 := B8 _ (by omega) (by omega); have e9 : wrap64 ((k + n * 32 + s * 65536) * 8) = (k + n * 32 + s * 65536) * 8 := B8 _ (by omega) (by omega); have e10 : wrap64 ((k + n * 32 + s * 65536) * 8 + 5) = r := by rw [hm]; exact B8 _ (by omega) (by omega)
  clear h x1 x2 p1 p2 q1 q2 hx hm; go_enter Tryz.func114, Tryz.ntmps114
  go_wp2_with (first
   | (go_at_call 144; refine Z5 (G.out _) ?_)
   | (go_at_call 145; refine Z5 (S.out _) ?_))
  go_ret; exact ⟨U3 (by first | rfl | assumption), rfl⟩
 ·rw [z6h h]; rw [z5m h] at G; clear h; go_enter Tryz.func114, Tryz.ntmps114
  go_wp2_with (go_at_call 144; refine Z5 (G.out _) ?_); go_ret; exact ⟨rfl, rfl⟩
end Go.Proofs.YtjbbkeoolodeaabGreatDoor
