/- looked -/
import Derived.Test.YtnkobcldagajeaaDoorLf
import Derived.Test.YtnkobcldagajeaaDoorRd
namespace Go.Proofs.YtnkobcldagajeaaDoor
open Go.RowKit
set_option linter.unusedVariables false
set_option linter.unusedSimpArgs false

set_option maxRecDepth 100000 in
set_option maxHeartbeats 4000000 in
theorem looked_10 {w : World} {lo hi p n : Nat} {S : Nat → Bool} {b r g l1 h1 l2 h2 : Nat} (h : PairIn w lo hi p n S S b r g l1 h1 l2 h2) (z kd x y c : Int) (hx : x < 9223372036854775808) (hk : kd = 10) :
    Calls Tryd.prog 25 #[.pointer (some ⟨p, 0, none⟩), .agg #[.int .i64 z, .int .i64 kd, .int .i64 x, .int .i64 y, .int .i64 c]] w fun e w' => e = .returned (.bool true) ∧ ∃ S', PairIn w' lo hi p n S' S' b r g l1 h1 l2 h2 ∧ Out lo hi w w' := by
  have hlim := h.lim
  have hP := h.quiet ((Out.refl 0 0 w).alloc (.cells #[.int .i64 z, .int .i64 kd, .int .i64 x, .int .i64 y, .int .i64 c] 52))
  have hO : OpAt (w.alloc (.cells #[.int .i64 z, .int .i64 kd, .int .i64 x, .int .i64 y, .int .i64 c] 52)) w.heap.size (z, kd, x, y, c) := heap_alloc_new _ _
  have o1 : Out 0 0 w (w.alloc (.cells #[.int .i64 z, .int .i64 kd, .int .i64 x, .int .i64 y, .int .i64 c] 52)) := (Out.refl _ _ _).alloc _
  obtain ⟨q0, q1, q2, q3, q4⟩ := hO.cells
  obtain ⟨d0, d1, d3⟩ := hP.cells
  obtain ⟨ao, cap, d2⟩ := hP.ref.field
  simp only at q0 q1 q2 q3 q4
  have HP := hid_mk hP
  have HO1 := hid_mk o1
  have HL := hid_mk hlim
  have HXX := hid_mk hx
  clear h hP hO o1 hlim hx
  have k10 : (kd == 10) = true := by rw [beq_iff_eq]; omega
  clear hk
  have he : ((getB S n x) == (getB S n x)) = true := by simp
  go_enter Tryd.func25, Tryd.ntmps25
  go_wp2_with fail
  go_region_held3 (fun w' => w'.cell? ⟨p, 0, none⟩ = some (.pointer (some ⟨b, 0, none⟩)) ∧ w'.cell? ⟨p, 1, none⟩ = some (.pointer (some ⟨r, 0, none⟩)) ∧ w'.cell? ⟨w.heap.size, 2, none⟩ = some (.int .i64 x) ∧ w'.cell? ⟨w.heap.size, 3, none⟩ = some (.int .i64 y)) (first | go_keep | (refine ⟨?_, ?_, ?_, ?_⟩ <;> exact hOO.cell (by assumption) (.inr (Nat.zero_le _))))
    (first | (go_at_call 15; refine (get_any (by exact HP.out.map) x).mono ?_; rintro e w2 ⟨rfl, hOO⟩) | (go_at_call 39; refine calls_same (refGet_any (by exact (HP.out.quiet (show Out 0 0 _ w2 from hOO)).ref) x) ?_))
  have HF : Hid (Out 0 0 w w2) := HO1.out.trans (show Out 0 0 _ w2 from hOO)
  have HQ : Hid (PairIn w2 lo hi p n S S b r g l1 h1 l2 h2) := HP.out.quiet (show Out 0 0 _ w2 from hOO)
  clear hOO
  all_goals (try go_wp2)
  go_ret
  exact ⟨rfl, S, HQ.out, HF.out.any _ _⟩
set_option maxRecDepth 100000 in
set_option maxHeartbeats 4000000 in
theorem looked_12 {w : World} {lo hi p n : Nat} {S : Nat → Bool} {b r g l1 h1 l2 h2 : Nat} (h : PairIn w lo hi p n S S b r g l1 h1 l2 h2) (z kd x y c : Int) (hx : x < 9223372036854775808) (hk : kd = 12) :
    Calls Tryd.prog 25 #[.pointer (some ⟨p, 0, none⟩), .agg #[.int .i64 z, .int .i64 kd, .int .i64 x, .int .i64 y, .int .i64 c]] w fun e w' => e = .returned (.bool true) ∧ ∃ S', PairIn w' lo hi p n S' S' b r g l1 h1 l2 h2 ∧ Out lo hi w w' := by
  have hlim := h.lim
  have hP := h.quiet ((Out.refl 0 0 w).alloc (.cells #[.int .i64 z, .int .i64 kd, .int .i64 x, .int .i64 y, .int .i64 c] 52))
  have hO : OpAt (w.alloc (.cells #[.int .i64 z, .int .i64 kd, .int .i64 x, .int .i64 y, .int .i64 c] 52)) w.heap.size (z, kd, x, y, c) := heap_alloc_new _ _
  have o1 : Out 0 0 w (w.alloc (.cells #[.int .i64 z, .int .i64 kd, .int .i64 x, .int .i64 y, .int .i64 c] 52)) := (Out.refl _ _ _).alloc _
  obtain ⟨q0, q1, q2, q3, q4⟩ := hO.cells
  obtain ⟨d0, d1, d3⟩ := hP.cells
  obtain ⟨ao, cap, d2⟩ := hP.ref.field
  simp only at q0 q1 q2 q3 q4
  have HP := hid_mk hP
  have HO1 := hid_mk o1
  have HL := hid_mk hlim
  have HXX := hid_mk hx
  clear h hP hO o1 hlim hx
  have k10 : (kd == 10) = false := by rw [beq_eq_false_iff_ne]; omega
  have k11 : (kd == 11) = false := by rw [beq_eq_false_iff_ne]; omega
  have k12 : (kd == 12) = true := by rw [beq_iff_eq]; omega
  clear hk
  have he : ((nxr S n x.toNat) == (nxr S n x.toNat)) = true := by simp
  go_enter Tryd.func25, Tryd.ntmps25
  go_wp2_with fail
  go_region_held3 (fun w' => w'.cell? ⟨p, 0, none⟩ = some (.pointer (some ⟨b, 0, none⟩)) ∧ w'.cell? ⟨p, 1, none⟩ = some (.pointer (some ⟨r, 0, none⟩)) ∧ w'.cell? ⟨w.heap.size, 2, none⟩ = some (.int .i64 x) ∧ w'.cell? ⟨w.heap.size, 3, none⟩ = some (.int .i64 y)) (first | go_keep | (refine ⟨?_, ?_, ?_, ?_⟩ <;> exact hOO.cell (by assumption) (.inr (Nat.zero_le _))))
    (first | (go_at_call 16; refine (next_any (by exact HP.out.map) x).mono ?_; rintro e w2 ⟨rfl, hOO⟩) | (go_at_call 41; refine calls_same (refNext_any (by exact (HP.out.quiet (show Out 0 0 _ w2 from hOO)).ref) x) ?_))
  have HF : Hid (Out 0 0 w w2) := HO1.out.trans (show Out 0 0 _ w2 from hOO)
  have HQ : Hid (PairIn w2 lo hi p n S S b r g l1 h1 l2 h2) := HP.out.quiet (show Out 0 0 _ w2 from hOO)
  clear hOO
  all_goals (try go_wp2)
  go_ret
  exact ⟨rfl, S, HQ.out, HF.out.any _ _⟩
set_option maxRecDepth 100000 in
set_option maxHeartbeats 4000000 in
theorem looked_13 {w : World} {lo hi p n : Nat} {S : Nat → Bool} {b r g l1 h1 l2 h2 : Nat} (h : PairIn w lo hi p n S S b r g l1 h1 l2 h2) (z kd x y c : Int) (hx : x < 9223372036854775808) (hk : kd = 13) :
    Calls Tryd.prog 25 #[.pointer (some ⟨p, 0, none⟩), .agg #[.int .i64 z, .int .i64 kd, .int .i64 x, .int .i64 y, .int .i64 c]] w fun e w' => e = .returned (.bool true) ∧ ∃ S', PairIn w' lo hi p n S' S' b r g l1 h1 l2 h2 ∧ Out lo hi w w' := by
  have hlim := h.lim
  have hP := h.quiet ((Out.refl 0 0 w).alloc (.cells #[.int .i64 z, .int .i64 kd, .int .i64 x, .int .i64 y, .int .i64 c] 52))
  have hO : OpAt (w.alloc (.cells #[.int .i64 z, .int .i64 kd, .int .i64 x, .int .i64 y, .int .i64 c] 52)) w.heap.size (z, kd, x, y, c) := heap_alloc_new _ _
  have o1 : Out 0 0 w (w.alloc (.cells #[.int .i64 z, .int .i64 kd, .int .i64 x, .int .i64 y, .int .i64 c] 52)) := (Out.refl _ _ _).alloc _
  obtain ⟨q0, q1, q2, q3, q4⟩ := hO.cells
  obtain ⟨d0, d1, d3⟩ := hP.cells
  obtain ⟨ao, cap, d2⟩ := hP.ref.field
  simp only at q0 q1 q2 q3 q4
  have HP := hid_mk hP
  have HO1 := hid_mk o1
  have HL := hid_mk hlim
  have HXX := hid_mk hx
  clear h hP hO o1 hlim hx
  have k10 : (kd == 10) = false := by rw [beq_eq_false_iff_ne]; omega
  have k11 : (kd == 11) = false := by rw [beq_eq_false_iff_ne]; omega
  have k12 : (kd == 12) = false := by rw [beq_eq_false_iff_ne]; omega
  have k13 : (kd == 13) = true := by rw [beq_iff_eq]; omega
  clear hk
  have he : ((gapV S n x y) == (gapV S n x y)) = true := by simp
  go_enter Tryd.func25, Tryd.ntmps25
  go_wp2_with fail
  go_region_held3 (fun w' => w'.cell? ⟨p, 0, none⟩ = some (.pointer (some ⟨b, 0, none⟩)) ∧ w'.cell? ⟨p, 1, none⟩ = some (.pointer (some ⟨r, 0, none⟩)) ∧ w'.cell? ⟨w.heap.size, 2, none⟩ = some (.int .i64 x) ∧ w'.cell? ⟨w.heap.size, 3, none⟩ = some (.int .i64 y)) (first | go_keep | (refine ⟨?_, ?_, ?_, ?_⟩ <;> exact hOO.cell (by assumption) (.inr (Nat.zero_le _))))
    (first | (go_at_call 42; refine (gap_any (by exact HP.out.map) x y).mono ?_; rintro e w2 ⟨rfl, hOO⟩) | (go_at_call 43; refine calls_same (refGap_any (by exact (HP.out.quiet (show Out 0 0 _ w2 from hOO)).ref) x y) ?_))
  have HF : Hid (Out 0 0 w w2) := HO1.out.trans (show Out 0 0 _ w2 from hOO)
  have HQ : Hid (PairIn w2 lo hi p n S S b r g l1 h1 l2 h2) := HP.out.quiet (show Out 0 0 _ w2 from hOO)
  clear hOO
  all_goals (try go_wp2)
  go_ret
  exact ⟨rfl, S, HQ.out, HF.out.any _ _⟩
end Go.Proofs.YtnkobcldagajeaaDoor
