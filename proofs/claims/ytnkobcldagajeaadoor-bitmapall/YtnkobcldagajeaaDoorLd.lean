/- turned -/
import Derived.Test.YtnkobcldagajeaaDoorLb
namespace Go.Proofs.YtnkobcldagajeaaDoor
open Go.RowKit
set_option linter.unusedVariables false
set_option linter.unusedSimpArgs false

def opV (o : Int × Int × Int × Int × Int) : Value := .agg #[.int .i64 o.1, .int .i64 o.2.1, .int .i64 o.2.2.1, .int .i64 o.2.2.2.1, .int .i64 o.2.2.2.2]
/-- the set behind a step that changes -/
def stepS (S : Nat → Bool) (n : Nat) (o : Int × Int × Int × Int × Int) : Nat → Bool :=
  if o.2.1 = 1 then setS S n o.2.2.1 true else if o.2.1 = 2 then setS S n o.2.2.1 false else if o.2.1 = 3 then rngS S n o.2.2.1 o.2.2.2.1 true else if o.2.1 = 4 then rngS S n o.2.2.1 o.2.2.2.1 false else fun _ => false
/-- a struct of five ints in a block -/
def OpAt (w : World) (g : Nat) (o : Int × Int × Int × Int × Int) : Prop := w.heap[g]? = some (.cells #[.int .i64 o.1, .int .i64 o.2.1, .int .i64 o.2.2.1, .int .i64 o.2.2.2.1, .int .i64 o.2.2.2.2] 52 (0, 0))
theorem OpAt.cells {w : World} {g : Nat} {o : Int × Int × Int × Int × Int} (h : OpAt w g o) : w.cell? ⟨g, 0, none⟩ = some (.int .i64 o.1) ∧ w.cell? ⟨g, 1, none⟩ = some (.int .i64 o.2.1) ∧ w.cell? ⟨g, 2, none⟩ = some (.int .i64 o.2.2.1) ∧ w.cell? ⟨g, 3, none⟩ = some (.int .i64 o.2.2.2.1) ∧ w.cell? ⟨g, 4, none⟩ = some (.int .i64 o.2.2.2.2) := by
  unfold OpAt at h
  refine ⟨?_, ?_, ?_, ?_, ?_⟩ <;> simp [World.cell?, h]
theorem Out.pair {w w' w'' : World} {lo hi l1 h1 l2 h2 : Nat} (o1 : Out l1 h1 w w') (o2 : Out l2 h2 w' w'') (a1 : lo ≤ l1) (a2 : h1 ≤ hi) (a3 : lo ≤ l2) (a4 : h2 ≤ hi) : Out lo hi w w'' := (o1.wide a1 a2).trans (o2.wide a3 a4)
theorem keep4 {w w' : World} {lo hi p n : Nat} {S R : Nat → Bool} {b r g l1 h1 l2 h2 G a c : Nat} {x y : Int} (h : PairIn w' lo hi p n S R b r g l1 h1 l2 h2) (q2 : w.cell? ⟨G, 2, none⟩ = some (.int .i64 x)) (q3 : w.cell? ⟨G, 3, none⟩ = some (.int .i64 y)) (o : Out a c w w') (hk : G < a ∨ c ≤ G) :
    Hid (w'.cell? ⟨p, 0, none⟩ = some (.pointer (some ⟨b, 0, none⟩)) ∧ w'.cell? ⟨p, 1, none⟩ = some (.pointer (some ⟨r, 0, none⟩)) ∧ w'.cell? ⟨G, 2, none⟩ = some (.int .i64 x) ∧ w'.cell? ⟨G, 3, none⟩ = some (.int .i64 y)) :=
  ⟨h.cells.1, h.cells.2.1, o.cell q2 hk, o.cell q3 hk⟩
set_option maxRecDepth 100000 in
set_option maxHeartbeats 4000000 in
theorem turned_1 {w : World} {lo hi p n : Nat} {S : Nat → Bool} {b r g l1 h1 l2 h2 : Nat} (h : PairIn w lo hi p n S S b r g l1 h1 l2 h2) (z kd x y c : Int) (hk : kd = 1) :
    Calls Tryd.prog 22 #[.pointer (some ⟨p, 0, none⟩), .agg #[.int .i64 z, .int .i64 kd, .int .i64 x, .int .i64 y, .int .i64 c]] w fun e w' => e = .returned (.bool true) ∧ PairIn w' lo hi p n (setS S n x true) (setS S n x true) b r g l1 h1 l2 h2 ∧ Out lo hi w w' := by
  have hlim := h.lim
  have hP := h.quiet ((Out.refl 0 0 w).alloc (.cells #[.int .i64 z, .int .i64 kd, .int .i64 x, .int .i64 y, .int .i64 c] 52))
  have hO : OpAt (w.alloc (.cells #[.int .i64 z, .int .i64 kd, .int .i64 x, .int .i64 y, .int .i64 c] 52)) w.heap.size (z, kd, x, y, c) := heap_alloc_new _ _
  have o1 : Out 0 0 w (w.alloc (.cells #[.int .i64 z, .int .i64 kd, .int .i64 x, .int .i64 y, .int .i64 c] 52)) := (Out.refl _ _ _).alloc _
  obtain ⟨q0, q1, q2, q3, q4⟩ := hO.cells
  obtain ⟨d0, d1, _⟩ := hP.cells
  simp only at q0 q1 q2 q3 q4
  have HP := hid_mk hP
  have HO1 := hid_mk o1
  have HL := hid_mk hlim
  have HNE : Hid (p ≠ w.heap.size) := by show p ≠ _; omega
  clear h hP hO o1 hlim
  have k1 : (kd == 1) = true := by rw [beq_iff_eq]; omega
  have he : (setE n x == setE n x) = true := by simp
  clear hk
  go_enter Tryd.func22, Tryd.ntmps22
  go_wp2_with fail
  go_region_held3 (fun w' => w'.cell? ⟨p, 0, none⟩ = some (.pointer (some ⟨b, 0, none⟩)) ∧ w'.cell? ⟨p, 1, none⟩ = some (.pointer (some ⟨r, 0, none⟩)) ∧ w'.cell? ⟨w.heap.size, 2, none⟩ = some (.int .i64 x) ∧ w'.cell? ⟨w.heap.size, 3, none⟩ = some (.int .i64 y)) (first | go_keep | (exact HK2.out) | (exact HK3.out))
    (first | (go_at_call 14; refine (set_any (by exact HP.out.map) x).mono ?_; rintro e w2 ⟨rfl, hm2, ho2⟩; have HQ2 : Hid (PairIn w2 lo hi p n (setS S n x true) S b r g l1 h1 l2 h2) := HP.out.setMap hm2 (by exact ho2); have HK2 := keep4 HQ2.out q2 q3 (show Out l1 h1 _ w2 from ho2) (.inr (by have := HL.out; omega))) | (go_at_call 31; refine (put_any HQ2.out.ref x true).mono ?_; rintro e w3 ⟨rfl, hm3, ho3⟩; have HQ3 : Hid (PairIn w3 lo hi p n (setS S n x true) (setS S n x true) b r g l1 h1 l2 h2) := HQ2.out.setRef hm3 (by exact ho3); have HK3 := keep4 HQ3.out HK2.out.2.2.1 HK2.out.2.2.2 (show Out l2 h2 w2 w3 from ho3) (.inr (by have := HL.out; omega))))
  have HF : Hid (Out lo hi w w3) := (HO1.out.any _ _).trans (Out.pair (show Out l1 h1 _ w2 from ho2) (show Out l2 h2 w2 w3 from ho3) HL.out.1 HL.out.2.1 HL.out.2.2.1 HL.out.2.2.2.1)
  clear hm2 ho2 hm3 ho3
  all_goals (try go_wp2)
  go_ret
  exact ⟨rfl, HQ3.out, HF.out⟩
set_option maxRecDepth 100000 in
set_option maxHeartbeats 4000000 in
theorem turned_2 {w : World} {lo hi p n : Nat} {S : Nat → Bool} {b r g l1 h1 l2 h2 : Nat} (h : PairIn w lo hi p n S S b r g l1 h1 l2 h2) (z kd x y c : Int) (hk : kd = 2) :
    Calls Tryd.prog 22 #[.pointer (some ⟨p, 0, none⟩), .agg #[.int .i64 z, .int .i64 kd, .int .i64 x, .int .i64 y, .int .i64 c]] w fun e w' => e = .returned (.bool true) ∧ PairIn w' lo hi p n (setS S n x false) (setS S n x false) b r g l1 h1 l2 h2 ∧ Out lo hi w w' := by
  have hlim := h.lim
  have hP := h.quiet ((Out.refl 0 0 w).alloc (.cells #[.int .i64 z, .int .i64 kd, .int .i64 x, .int .i64 y, .int .i64 c] 52))
  have hO : OpAt (w.alloc (.cells #[.int .i64 z, .int .i64 kd, .int .i64 x, .int .i64 y, .int .i64 c] 52)) w.heap.size (z, kd, x, y, c) := heap_alloc_new _ _
  have o1 : Out 0 0 w (w.alloc (.cells #[.int .i64 z, .int .i64 kd, .int .i64 x, .int .i64 y, .int .i64 c] 52)) := (Out.refl _ _ _).alloc _
  obtain ⟨q0, q1, q2, q3, q4⟩ := hO.cells
  obtain ⟨d0, d1, _⟩ := hP.cells
  simp only at q0 q1 q2 q3 q4
  have HP := hid_mk hP
  have HO1 := hid_mk o1
  have HL := hid_mk hlim
  have HNE : Hid (p ≠ w.heap.size) := by show p ≠ _; omega
  clear h hP hO o1 hlim
  have k1 : (kd == 1) = false := by rw [beq_eq_false_iff_ne]; omega
  have k2 : (kd == 2) = true := by rw [beq_iff_eq]; omega
  have he : (setE n x == setE n x) = true := by simp
  clear hk
  go_enter Tryd.func22, Tryd.ntmps22
  go_wp2_with fail
  go_region_held3 (fun w' => w'.cell? ⟨p, 0, none⟩ = some (.pointer (some ⟨b, 0, none⟩)) ∧ w'.cell? ⟨p, 1, none⟩ = some (.pointer (some ⟨r, 0, none⟩)) ∧ w'.cell? ⟨w.heap.size, 2, none⟩ = some (.int .i64 x) ∧ w'.cell? ⟨w.heap.size, 3, none⟩ = some (.int .i64 y)) (first | go_keep | (exact HK2.out) | (exact HK3.out))
    (first | (go_at_call 32; refine (clear_any (by exact HP.out.map) x).mono ?_; rintro e w2 ⟨rfl, hm2, ho2⟩; have HQ2 : Hid (PairIn w2 lo hi p n (setS S n x false) S b r g l1 h1 l2 h2) := HP.out.setMap hm2 (by exact ho2); have HK2 := keep4 HQ2.out q2 q3 (show Out l1 h1 _ w2 from ho2) (.inr (by have := HL.out; omega))) | (go_at_call 31; refine (put_any HQ2.out.ref x false).mono ?_; rintro e w3 ⟨rfl, hm3, ho3⟩; have HQ3 : Hid (PairIn w3 lo hi p n (setS S n x false) (setS S n x false) b r g l1 h1 l2 h2) := HQ2.out.setRef hm3 (by exact ho3); have HK3 := keep4 HQ3.out HK2.out.2.2.1 HK2.out.2.2.2 (show Out l2 h2 w2 w3 from ho3) (.inr (by have := HL.out; omega))))
  have HF : Hid (Out lo hi w w3) := (HO1.out.any _ _).trans (Out.pair (show Out l1 h1 _ w2 from ho2) (show Out l2 h2 w2 w3 from ho3) HL.out.1 HL.out.2.1 HL.out.2.2.1 HL.out.2.2.2.1)
  clear hm2 ho2 hm3 ho3
  all_goals (try go_wp2)
  go_ret
  exact ⟨rfl, HQ3.out, HF.out⟩
set_option maxRecDepth 100000 in
set_option maxHeartbeats 4000000 in
theorem turned_3 {w : World} {lo hi p n : Nat} {S : Nat → Bool} {b r g l1 h1 l2 h2 : Nat} (h : PairIn w lo hi p n S S b r g l1 h1 l2 h2) (z kd x y c : Int) (hk : kd = 3) :
    Calls Tryd.prog 22 #[.pointer (some ⟨p, 0, none⟩), .agg #[.int .i64 z, .int .i64 kd, .int .i64 x, .int .i64 y, .int .i64 c]] w fun e w' => e = .returned (.bool true) ∧ PairIn w' lo hi p n (rngS S n x y true) (rngS S n x y true) b r g l1 h1 l2 h2 ∧ Out lo hi w w' := by
  have hlim := h.lim
  have hP := h.quiet ((Out.refl 0 0 w).alloc (.cells #[.int .i64 z, .int .i64 kd, .int .i64 x, .int .i64 y, .int .i64 c] 52))
  have hO : OpAt (w.alloc (.cells #[.int .i64 z, .int .i64 kd, .int .i64 x, .int .i64 y, .int .i64 c] 52)) w.heap.size (z, kd, x, y, c) := heap_alloc_new _ _
  have o1 : Out 0 0 w (w.alloc (.cells #[.int .i64 z, .int .i64 kd, .int .i64 x, .int .i64 y, .int .i64 c] 52)) := (Out.refl _ _ _).alloc _
  obtain ⟨q0, q1, q2, q3, q4⟩ := hO.cells
  obtain ⟨d0, d1, _⟩ := hP.cells
  simp only at q0 q1 q2 q3 q4
  have HP := hid_mk hP
  have HO1 := hid_mk o1
  have HL := hid_mk hlim
  have HNE : Hid (p ≠ w.heap.size) := by show p ≠ _; omega
  clear h hP hO o1 hlim
  have k1 : (kd == 1) = false := by rw [beq_eq_false_iff_ne]; omega
  have k2 : (kd == 2) = false := by rw [beq_eq_false_iff_ne]; omega
  have k3 : (kd == 3) = true := by rw [beq_iff_eq]; omega
  have he : (rngE n x y == rngE n x y) = true := by simp
  clear hk
  go_enter Tryd.func22, Tryd.ntmps22
  go_wp2_with fail
  go_region_held3 (fun w' => w'.cell? ⟨p, 0, none⟩ = some (.pointer (some ⟨b, 0, none⟩)) ∧ w'.cell? ⟨p, 1, none⟩ = some (.pointer (some ⟨r, 0, none⟩)) ∧ w'.cell? ⟨w.heap.size, 2, none⟩ = some (.int .i64 x) ∧ w'.cell? ⟨w.heap.size, 3, none⟩ = some (.int .i64 y)) (first | go_keep | (exact HK2.out) | (exact HK3.out))
    (first | (go_at_call 33; refine (setRange_any (by exact HP.out.map) x y).mono ?_; rintro e w2 ⟨rfl, hm2, ho2⟩; have HQ2 : Hid (PairIn w2 lo hi p n (rngS S n x y true) S b r g l1 h1 l2 h2) := HP.out.setMap hm2 (by exact ho2); have HK2 := keep4 HQ2.out q2 q3 (show Out l1 h1 _ w2 from ho2) (.inr (by have := HL.out; omega))) | (go_at_call 34; refine (putRange_any HQ2.out.ref x y true).mono ?_; rintro e w3 ⟨rfl, hm3, ho3⟩; have HQ3 : Hid (PairIn w3 lo hi p n (rngS S n x y true) (rngS S n x y true) b r g l1 h1 l2 h2) := HQ2.out.setRef hm3 (by exact ho3); have HK3 := keep4 HQ3.out HK2.out.2.2.1 HK2.out.2.2.2 (show Out l2 h2 w2 w3 from ho3) (.inr (by have := HL.out; omega))))
  have HF : Hid (Out lo hi w w3) := (HO1.out.any _ _).trans (Out.pair (show Out l1 h1 _ w2 from ho2) (show Out l2 h2 w2 w3 from ho3) HL.out.1 HL.out.2.1 HL.out.2.2.1 HL.out.2.2.2.1)
  clear hm2 ho2 hm3 ho3
  all_goals (try go_wp2)
  go_ret
  exact ⟨rfl, HQ3.out, HF.out⟩
set_option maxRecDepth 100000 in
set_option maxHeartbeats 4000000 in
theorem turned_4 {w : World} {lo hi p n : Nat} {S : Nat → Bool} {b r g l1 h1 l2 h2 : Nat} (h : PairIn w lo hi p n S S b r g l1 h1 l2 h2) (z kd x y c : Int) (hk : kd = 4) :
    Calls Tryd.prog 22 #[.pointer (some ⟨p, 0, none⟩), .agg #[.int .i64 z, .int .i64 kd, .int .i64 x, .int .i64 y, .int .i64 c]] w fun e w' => e = .returned (.bool true) ∧ PairIn w' lo hi p n (rngS S n x y false) (rngS S n x y false) b r g l1 h1 l2 h2 ∧ Out lo hi w w' := by
  have hlim := h.lim
  have hP := h.quiet ((Out.refl 0 0 w).alloc (.cells #[.int .i64 z, .int .i64 kd, .int .i64 x, .int .i64 y, .int .i64 c] 52))
  have hO : OpAt (w.alloc (.cells #[.int .i64 z, .int .i64 kd, .int .i64 x, .int .i64 y, .int .i64 c] 52)) w.heap.size (z, kd, x, y, c) := heap_alloc_new _ _
  have o1 : Out 0 0 w (w.alloc (.cells #[.int .i64 z, .int .i64 kd, .int .i64 x, .int .i64 y, .int .i64 c] 52)) := (Out.refl _ _ _).alloc _
  obtain ⟨q0, q1, q2, q3, q4⟩ := hO.cells
  obtain ⟨d0, d1, _⟩ := hP.cells
  simp only at q0 q1 q2 q3 q4
  have HP := hid_mk hP
  have HO1 := hid_mk o1
  have HL := hid_mk hlim
  have HNE : Hid (p ≠ w.heap.size) := by show p ≠ _; omega
  clear h hP hO o1 hlim
  have k1 : (kd == 1) = false := by rw [beq_eq_false_iff_ne]; omega
  have k2 : (kd == 2) = false := by rw [beq_eq_false_iff_ne]; omega
  have k3 : (kd == 3) = false := by rw [beq_eq_false_iff_ne]; omega
  have k4 : (kd == 4) = true := by rw [beq_iff_eq]; omega
  have he : (rngE n x y == rngE n x y) = true := by simp
  clear hk
  go_enter Tryd.func22, Tryd.ntmps22
  go_wp2_with fail
  go_region_held3 (fun w' => w'.cell? ⟨p, 0, none⟩ = some (.pointer (some ⟨b, 0, none⟩)) ∧ w'.cell? ⟨p, 1, none⟩ = some (.pointer (some ⟨r, 0, none⟩)) ∧ w'.cell? ⟨w.heap.size, 2, none⟩ = some (.int .i64 x) ∧ w'.cell? ⟨w.heap.size, 3, none⟩ = some (.int .i64 y)) (first | go_keep | (exact HK2.out) | (exact HK3.out))
    (first | (go_at_call 35; refine (clearRange_any (by exact HP.out.map) x y).mono ?_; rintro e w2 ⟨rfl, hm2, ho2⟩; have HQ2 : Hid (PairIn w2 lo hi p n (rngS S n x y false) S b r g l1 h1 l2 h2) := HP.out.setMap hm2 (by exact ho2); have HK2 := keep4 HQ2.out q2 q3 (show Out l1 h1 _ w2 from ho2) (.inr (by have := HL.out; omega))) | (go_at_call 34; refine (putRange_any HQ2.out.ref x y false).mono ?_; rintro e w3 ⟨rfl, hm3, ho3⟩; have HQ3 : Hid (PairIn w3 lo hi p n (rngS S n x y false) (rngS S n x y false) b r g l1 h1 l2 h2) := HQ2.out.setRef hm3 (by exact ho3); have HK3 := keep4 HQ3.out HK2.out.2.2.1 HK2.out.2.2.2 (show Out l2 h2 w2 w3 from ho3) (.inr (by have := HL.out; omega))))
  have HF : Hid (Out lo hi w w3) := (HO1.out.any _ _).trans (Out.pair (show Out l1 h1 _ w2 from ho2) (show Out l2 h2 w2 w3 from ho3) HL.out.1 HL.out.2.1 HL.out.2.2.1 HL.out.2.2.2.1)
  clear hm2 ho2 hm3 ho3
  all_goals (try go_wp2)
  go_ret
  exact ⟨rfl, HQ3.out, HF.out⟩
set_option maxRecDepth 100000 in
set_option maxHeartbeats 4000000 in
theorem turned_5 {w : World} {lo hi p n : Nat} {S : Nat → Bool} {b r g l1 h1 l2 h2 : Nat} (h : PairIn w lo hi p n S S b r g l1 h1 l2 h2) (z kd x y c : Int) (hk : kd < 1 ∨ 4 < kd) :
    Calls Tryd.prog 22 #[.pointer (some ⟨p, 0, none⟩), .agg #[.int .i64 z, .int .i64 kd, .int .i64 x, .int .i64 y, .int .i64 c]] w fun e w' => e = .returned (.bool true) ∧ PairIn w' lo hi p n (fun _ => false) (fun _ => false) b r g l1 h1 l2 h2 ∧ Out lo hi w w' := by
  have hlim := h.lim
  have hP := h.quiet ((Out.refl 0 0 w).alloc (.cells #[.int .i64 z, .int .i64 kd, .int .i64 x, .int .i64 y, .int .i64 c] 52))
  have hO : OpAt (w.alloc (.cells #[.int .i64 z, .int .i64 kd, .int .i64 x, .int .i64 y, .int .i64 c] 52)) w.heap.size (z, kd, x, y, c) := heap_alloc_new _ _
  have o1 : Out 0 0 w (w.alloc (.cells #[.int .i64 z, .int .i64 kd, .int .i64 x, .int .i64 y, .int .i64 c] 52)) := (Out.refl _ _ _).alloc _
  obtain ⟨q0, q1, q2, q3, q4⟩ := hO.cells
  obtain ⟨d0, d1, _⟩ := hP.cells
  simp only at q0 q1 q2 q3 q4
  have HP := hid_mk hP
  have HO1 := hid_mk o1
  have HL := hid_mk hlim
  have HNE : Hid (p ≠ w.heap.size) := by show p ≠ _; omega
  clear h hP hO o1 hlim
  have k1 : (kd == 1) = false := by rw [beq_eq_false_iff_ne]; omega
  have k2 : (kd == 2) = false := by rw [beq_eq_false_iff_ne]; omega
  have k3 : (kd == 3) = false := by rw [beq_eq_false_iff_ne]; omega
  have k4 : (kd == 4) = false := by rw [beq_eq_false_iff_ne]; omega
  clear hk
  go_enter Tryd.func22, Tryd.ntmps22
  go_wp2_with fail
  refine (reset_any HP.out.map).mono ?_
  rintro e w2 ⟨rfl, hm2, ho2⟩
  have HQ2 : Hid (PairIn w2 lo hi p n (fun _ => false) S b r g l1 h1 l2 h2) := HP.out.setMap hm2 ho2
  have HO2 := hid_mk ho2
  obtain ⟨e0, e1, _⟩ := HQ2.out.cells
  clear hm2 ho2 d0 d1 q0 q1 q2 q3 q4
  go_wp2_with fail
  refine (refReset_any HQ2.out.ref).mono ?_
  rintro e w3 ⟨rfl, hm3, ho3⟩
  have HQ3 : Hid (PairIn w3 lo hi p n (fun _ => false) (fun _ => false) b r g l1 h1 l2 h2) := HQ2.out.setRef hm3 ho3
  have HF : Hid (Out lo hi w w3) := (HO1.out.any _ _).trans (Out.pair HO2.out ho3 HL.out.1 HL.out.2.1 HL.out.2.2.1 HL.out.2.2.2.1)
  clear hm3 ho3 e0 e1
  go_wp2
  go_ret
  exact ⟨rfl, HQ3.out, HF.out⟩
theorem turned_any {w : World} {lo hi p n : Nat} {S : Nat → Bool} {b r g l1 h1 l2 h2 : Nat} (h : PairIn w lo hi p n S S b r g l1 h1 l2 h2) (o : Int × Int × Int × Int × Int) :
    Calls Tryd.prog 22 #[.pointer (some ⟨p, 0, none⟩), opV o] w fun e w' => e = .returned (.bool true) ∧ PairIn w' lo hi p n (stepS S n o) (stepS S n o) b r g l1 h1 l2 h2 ∧ Out lo hi w w' := by
  obtain ⟨z, kd, x, y, c⟩ := o
  unfold opV stepS
  simp only
  by_cases k1 : kd = 1
  · rw [if_pos k1]; exact turned_1 h z kd x y c k1
  · rw [if_neg k1]
    by_cases k2 : kd = 2
    · rw [if_pos k2]; exact turned_2 h z kd x y c k2
    · rw [if_neg k2]
      by_cases k3 : kd = 3
      · rw [if_pos k3]; exact turned_3 h z kd x y c k3
      · rw [if_neg k3]
        by_cases k4 : kd = 4
        · rw [if_pos k4]; exact turned_4 h z kd x y c k4
        · rw [if_neg k4]; exact turned_5 h z kd x y c (by omega)
end Go.Proofs.YtnkobcldagajeaaDoor
