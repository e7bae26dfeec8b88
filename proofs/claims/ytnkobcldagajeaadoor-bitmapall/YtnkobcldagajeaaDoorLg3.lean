/- looked -/
import Derived.Test.YtnkobcldagajeaaDoorLf
import Derived.Test.YtnkobcldagajeaaDoorRd
namespace Go.Proofs.YtnkobcldagajeaaDoor
open Go.RowKit
set_option linter.unusedVariables false
set_option linter.unusedSimpArgs false

theorem all_box (b : Nat) (w : World) (G : Nat) (hG : w.heap.size = G) :
    Calls Tryd.prog 20 #[.pointer (some ⟨b, 0, none⟩)] w fun e w' => e = .returned (.func (.func 30) #[] #[.pointer (some ⟨G, 0, none⟩)]) ∧ Box w' G 30 (.pointer (some ⟨b, 0, none⟩)) ∧ Out 0 0 w w' := by
  subst hG
  exact (all_any b w).mono fun e w' ⟨h1, h2⟩ => ⟨h1, by rw [h2]; exact Box.new _ _ _, by rw [h2]; exact (Out.refl _ _ _).alloc _⟩
set_option maxRecDepth 100000 in
set_option maxHeartbeats 4000000 in
theorem looked_14 {w : World} {lo hi p n : Nat} {S : Nat → Bool} {b r g l1 h1 l2 h2 : Nat} (h : PairIn w lo hi p n S S b r g l1 h1 l2 h2) (z kd x y c : Int) (hx : x < 9223372036854775808) (hk : kd = 14) (hx0 : x ≠ 0) :
    Calls Tryd.prog 25 #[.pointer (some ⟨p, 0, none⟩), .agg #[.int .i64 z, .int .i64 kd, .int .i64 x, .int .i64 y, .int .i64 c]] w fun e w' => e = .returned (.bool true) ∧ ∃ S', PairIn w' lo hi p n S' S' b r g l1 h1 l2 h2 ∧ Out lo hi w w' := by
  have hlim := h.lim
  have hP := h.quiet ((Out.refl 0 0 w).alloc (.cells #[.int .i64 z, .int .i64 kd, .int .i64 x, .int .i64 y, .int .i64 c] 52))
  have hO : OpAt (w.alloc (.cells #[.int .i64 z, .int .i64 kd, .int .i64 x, .int .i64 y, .int .i64 c] 52)) w.heap.size (z, kd, x, y, c) := heap_alloc_new _ _
  have o1 : Out 0 0 w (w.alloc (.cells #[.int .i64 z, .int .i64 kd, .int .i64 x, .int .i64 y, .int .i64 c] 52)) := (Out.refl _ _ _).alloc _
  obtain ⟨q0, q1, q2, q3, q4⟩ := hO.cells
  obtain ⟨d0, d1, d3⟩ := hP.cells
  obtain ⟨ao, cap, d2⟩ := hP.ref.field
  simp only at q0 q1 q2 q3 q4
  have HP := hid_mk hP
  have HO1 := hid_mk o1
  have HL := hid_mk hlim
  have HXX := hid_mk hx
  clear h hP hO o1 hlim hx
  have k10 : (kd == 10) = false := by rw [beq_eq_false_iff_ne]; omega
  have k11 : (kd == 11) = false := by rw [beq_eq_false_iff_ne]; omega
  have k12 : (kd == 12) = false := by rw [beq_eq_false_iff_ne]; omega
  have k13 : (kd == 13) = false := by rw [beq_eq_false_iff_ne]; omega
  have k14 : (kd == 14) = true := by rw [beq_iff_eq]; omega
  clear hk
  have e0 : (x == 0) = false := by rw [beq_eq_false_iff_ne]; exact hx0
  have HX0 := hid_mk hx0
  clear hx0
  unfold allV at *
  go_enter Tryd.func25, Tryd.ntmps25
  go_wp2_with fail
  go_region_held3 (fun w' => w'.cell? ⟨p, 0, none⟩ = some (.pointer (some ⟨b, 0, none⟩)) ∧ w'.cell? ⟨w.heap.size, 2, none⟩ = some (.int .i64 x)) (first | go_keep | (refine ⟨?_, ?_⟩ <;> exact hOO.cell (by assumption) (.inr (Nat.zero_le _))) | (exact ⟨hp3.cells.1, ho3.cell (hOO.cell (by assumption) (.inr (Nat.zero_le _))) (.inr (by have := HL.out; omega))⟩))
    (first | (go_at_call 20; refine (all_box b _ (w.heap.size + 1) (by simp)).mono ?_; rintro e w2 ⟨rfl, hbx, hOO⟩) | (go_at_call 44; refine (gone_any (HP.out.quiet (show Out 0 0 _ w2 from hOO)) hbx (.inr (by have := HL.out; omega)) HX0.out).mono ?_; rintro e w3 ⟨rfl, S', hp3, ho3⟩))
  have HF : Hid (Out lo hi w w3) := (HO1.out.any _ _).trans (((show Out 0 0 _ w2 from hOO).any _ _).trans ho3)
  have HQ := hid_mk hp3
  clear hOO ho3 hp3
  all_goals (try go_wp2)
  go_ret
  exact ⟨rfl, S', HQ.out, HF.out⟩
set_option maxRecDepth 100000 in
set_option maxHeartbeats 4000000 in
theorem looked_14z {w : World} {lo hi p n : Nat} {S : Nat → Bool} {b r g l1 h1 l2 h2 : Nat} (h : PairIn w lo hi p n S S b r g l1 h1 l2 h2) (z kd x y c : Int) (hx : x < 9223372036854775808) (hk : kd = 14) (hx0 : x = 0) :
    Calls Tryd.prog 25 #[.pointer (some ⟨p, 0, none⟩), .agg #[.int .i64 z, .int .i64 kd, .int .i64 x, .int .i64 y, .int .i64 c]] w fun e w' => e = .returned (.bool true) ∧ ∃ S', PairIn w' lo hi p n S' S' b r g l1 h1 l2 h2 ∧ Out lo hi w w' := by
  have hlim := h.lim
  have hP := h.quiet ((Out.refl 0 0 w).alloc (.cells #[.int .i64 z, .int .i64 kd, .int .i64 x, .int .i64 y, .int .i64 c] 52))
  have hO : OpAt (w.alloc (.cells #[.int .i64 z, .int .i64 kd, .int .i64 x, .int .i64 y, .int .i64 c] 52)) w.heap.size (z, kd, x, y, c) := heap_alloc_new _ _
  have o1 : Out 0 0 w (w.alloc (.cells #[.int .i64 z, .int .i64 kd, .int .i64 x, .int .i64 y, .int .i64 c] 52)) := (Out.refl _ _ _).alloc _
  obtain ⟨q0, q1, q2, q3, q4⟩ := hO.cells
  obtain ⟨d0, d1, d3⟩ := hP.cells
  obtain ⟨ao, cap, d2⟩ := hP.ref.field
  simp only at q0 q1 q2 q3 q4
  have HP := hid_mk hP
  have HO1 := hid_mk o1
  have HL := hid_mk hlim
  have HXX := hid_mk hx
  clear h hP hO o1 hlim hx
  have k10 : (kd == 10) = false := by rw [beq_eq_false_iff_ne]; omega
  have k11 : (kd == 11) = false := by rw [beq_eq_false_iff_ne]; omega
  have k12 : (kd == 12) = false := by rw [beq_eq_false_iff_ne]; omega
  have k13 : (kd == 13) = false := by rw [beq_eq_false_iff_ne]; omega
  have k14 : (kd == 14) = true := by rw [beq_iff_eq]; omega
  clear hk
  have e0 : (x == 0) = true := by rw [beq_iff_eq]; exact hx0
  clear hx0
  go_enter Tryd.func25, Tryd.ntmps25
  go_wp2
  go_ret
  exact ⟨rfl, S, HP.out, HO1.out.any _ _⟩
set_option maxRecDepth 100000 in
set_option maxHeartbeats 4000000 in
theorem looked_15 {w : World} {lo hi p n : Nat} {S : Nat → Bool} {b r g l1 h1 l2 h2 : Nat} (h : PairIn w lo hi p n S S b r g l1 h1 l2 h2) (z kd x y c : Int) (hx : x < 9223372036854775808) (hk : kd = 15) :
    Calls Tryd.prog 25 #[.pointer (some ⟨p, 0, none⟩), .agg #[.int .i64 z, .int .i64 kd, .int .i64 x, .int .i64 y, .int .i64 c]] w fun e w' => e = .returned (.bool true) ∧ ∃ S', PairIn w' lo hi p n S' S' b r g l1 h1 l2 h2 ∧ Out lo hi w w' := by
  have hlim := h.lim
  have hP := h.quiet ((Out.refl 0 0 w).alloc (.cells #[.int .i64 z, .int .i64 kd, .int .i64 x, .int .i64 y, .int .i64 c] 52))
  have hO : OpAt (w.alloc (.cells #[.int .i64 z, .int .i64 kd, .int .i64 x, .int .i64 y, .int .i64 c] 52)) w.heap.size (z, kd, x, y, c) := heap_alloc_new _ _
  have o1 : Out 0 0 w (w.alloc (.cells #[.int .i64 z, .int .i64 kd, .int .i64 x, .int .i64 y, .int .i64 c] 52)) := (Out.refl _ _ _).alloc _
  obtain ⟨q0, q1, q2, q3, q4⟩ := hO.cells
  obtain ⟨d0, d1, d3⟩ := hP.cells
  obtain ⟨ao, cap, d2⟩ := hP.ref.field
  simp only at q0 q1 q2 q3 q4
  have HP := hid_mk hP
  have HO1 := hid_mk o1
  have HL := hid_mk hlim
  have HXX := hid_mk hx
  clear h hP hO o1 hlim hx
  have k10 : (kd == 10) = false := by rw [beq_eq_false_iff_ne]; omega
  have k11 : (kd == 11) = false := by rw [beq_eq_false_iff_ne]; omega
  have k12 : (kd == 12) = false := by rw [beq_eq_false_iff_ne]; omega
  have k13 : (kd == 13) = false := by rw [beq_eq_false_iff_ne]; omega
  have k14 : (kd == 14) = false := by rw [beq_eq_false_iff_ne]; omega
  have k15 : (kd == 15) = true := by rw [beq_iff_eq]; omega
  clear hk
  unfold allV at *
  go_enter Tryd.func25, Tryd.ntmps25
  go_wp2_with fail
  go_region_held3 (fun w' => w'.cell? ⟨p, 0, none⟩ = some (.pointer (some ⟨b, 0, none⟩)) ∧ w'.cell? ⟨w.heap.size, 2, none⟩ = some (.int .i64 x) ∧ w'.cell? ⟨w.heap.size, 3, none⟩ = some (.int .i64 y) ∧ w'.cell? ⟨w.heap.size, 4, none⟩ = some (.int .i64 c)) (first | go_keep | (refine ⟨?_, ?_, ?_, ?_⟩ <;> exact hOO.cell (by assumption) (.inr (Nat.zero_le _))) | (refine ⟨hp3.cells.1, ?_, ?_, ?_⟩ <;> exact ho3.cell (hOO.cell (by assumption) (.inr (Nat.zero_le _))) (.inr (by have := HL.out; omega))))
    (first | (go_at_call 20; refine (all_box b _ (w.heap.size + 1) (by simp)).mono ?_; rintro e w2 ⟨rfl, hbx, hOO⟩) | (go_at_call 44; refine (gone_any (HP.out.quiet (show Out 0 0 _ w2 from hOO)) hbx (.inr (by have := HL.out; omega)) (by omega)).mono ?_; rintro e w3 ⟨rfl, S', hp3, ho3⟩))
  have HF : Hid (Out lo hi w w3) := (HO1.out.any _ _).trans (((show Out 0 0 _ w2 from hOO).any _ _).trans ho3)
  have HQ := hid_mk hp3
  clear hOO ho3 hp3
  all_goals (try go_wp2)
  go_ret
  exact ⟨rfl, S', HQ.out, HF.out⟩
end Go.Proofs.YtnkobcldagajeaaDoor
