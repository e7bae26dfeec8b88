/- looked -/
import Derived.Test.YtnkobcldagajeaaDoorLf
import Derived.Test.YtnkobcldagajeaaDoorRd
namespace Go.Proofs.YtnkobcldagajeaaDoor
open Go.RowKit
set_option linter.unusedVariables false
set_option linter.unusedSimpArgs false

set_option maxRecDepth 100000 in
set_option maxHeartbeats 4000000 in
theorem looked_16 {w : World} {lo hi p n : Nat} {S : Nat → Bool} {b r g l1 h1 l2 h2 : Nat} (h : PairIn w lo hi p n S S b r g l1 h1 l2 h2) (z kd x y c : Int) (hx : x < 9223372036854775808) (hk : kd = 16) :
    Calls Tryd.prog 25 #[.pointer (some ⟨p, 0, none⟩), .agg #[.int .i64 z, .int .i64 kd, .int .i64 x, .int .i64 y, .int .i64 c]] w fun e w' => e = .returned (.bool true) ∧ ∃ S', PairIn w' lo hi p n S' S' b r g l1 h1 l2 h2 ∧ Out lo hi w w' := by
  have hlim := h.lim
  have hP := h.quiet ((Out.refl 0 0 w).alloc (.cells #[.int .i64 z, .int .i64 kd, .int .i64 x, .int .i64 y, .int .i64 c] 52))
  have hO : OpAt (w.alloc (.cells #[.int .i64 z, .int .i64 kd, .int .i64 x, .int .i64 y, .int .i64 c] 52)) w.heap.size (z, kd, x, y, c) := heap_alloc_new _ _
  have o1 : Out 0 0 w (w.alloc (.cells #[.int .i64 z, .int .i64 kd, .int .i64 x, .int .i64 y, .int .i64 c] 52)) := (Out.refl _ _ _).alloc _
  obtain ⟨q0, q1, q2, q3, q4⟩ := hO.cells
  obtain ⟨d0, d1, d3⟩ := hP.cells
  obtain ⟨ao, cap, d2⟩ := hP.ref.field
  simp only at q0 q1 q2 q3 q4
  have HP := hid_mk hP
  have HO1 := hid_mk o1
  have HL := hid_mk hlim
  have HXX := hid_mk hx
  clear h hP hO o1 hlim hx
  have k10 : (kd == 10) = false := by rw [beq_eq_false_iff_ne]; omega
  have k11 : (kd == 11) = false := by rw [beq_eq_false_iff_ne]; omega
  have k12 : (kd == 12) = false := by rw [beq_eq_false_iff_ne]; omega
  have k13 : (kd == 13) = false := by rw [beq_eq_false_iff_ne]; omega
  have k14 : (kd == 14) = false := by rw [beq_eq_false_iff_ne]; omega
  have k15 : (kd == 15) = false := by rw [beq_eq_false_iff_ne]; omega
  have k16 : (kd == 16) = true := by rw [beq_iff_eq]; omega
  clear hk
  unfold allV at *
  go_enter Tryd.func25, Tryd.ntmps25
  go_wp2_with fail
  refine (gone_any HP.out HP.out.box (.inl rfl) (by omega)).mono ?_
  rintro e w2 ⟨rfl, S1, hp2, ho2⟩
  have HP2 := hid_mk hp2
  have HO2 := hid_mk ho2
  obtain ⟨e0, e1, e3⟩ := hp2.cells
  clear hp2 ho2 d0 d1 d2 d3 q0 q1 q2 q3 q4
  unfold allV at *
  go_wp2_with fail
  refine (gone_any HP2.out HP2.out.box (.inl rfl) (by omega)).mono ?_
  rintro e w3 ⟨rfl, S', hp3, ho3⟩
  have HF : Hid (Out lo hi w w3) := (HO1.out.any _ _).trans (HO2.out.trans ho3)
  have HQ := hid_mk hp3
  clear ho3 hp3 e0 e1 e3
  go_wp2
  go_ret
  exact ⟨rfl, S', HQ.out, HF.out⟩
set_option maxRecDepth 100000 in
set_option maxHeartbeats 4000000 in
theorem looked_17 {w : World} {lo hi p n : Nat} {S : Nat → Bool} {b r g l1 h1 l2 h2 : Nat} (h : PairIn w lo hi p n S S b r g l1 h1 l2 h2) (z kd x y c : Int) (hx : x < 9223372036854775808) (hk : kd = 17) :
    Calls Tryd.prog 25 #[.pointer (some ⟨p, 0, none⟩), .agg #[.int .i64 z, .int .i64 kd, .int .i64 x, .int .i64 y, .int .i64 c]] w fun e w' => e = .returned (.bool true) ∧ ∃ S', PairIn w' lo hi p n S' S' b r g l1 h1 l2 h2 ∧ Out lo hi w w' := by
  have hlim := h.lim
  have hP := h.quiet ((Out.refl 0 0 w).alloc (.cells #[.int .i64 z, .int .i64 kd, .int .i64 x, .int .i64 y, .int .i64 c] 52))
  have hO : OpAt (w.alloc (.cells #[.int .i64 z, .int .i64 kd, .int .i64 x, .int .i64 y, .int .i64 c] 52)) w.heap.size (z, kd, x, y, c) := heap_alloc_new _ _
  have o1 : Out 0 0 w (w.alloc (.cells #[.int .i64 z, .int .i64 kd, .int .i64 x, .int .i64 y, .int .i64 c] 52)) := (Out.refl _ _ _).alloc _
  obtain ⟨q0, q1, q2, q3, q4⟩ := hO.cells
  obtain ⟨d0, d1, d3⟩ := hP.cells
  obtain ⟨ao, cap, d2⟩ := hP.ref.field
  simp only at q0 q1 q2 q3 q4
  have HP := hid_mk hP
  have HO1 := hid_mk o1
  have HL := hid_mk hlim
  have HXX := hid_mk hx
  clear h hP hO o1 hlim hx
  have k10 : (kd == 10) = false := by rw [beq_eq_false_iff_ne]; omega
  have k11 : (kd == 11) = false := by rw [beq_eq_false_iff_ne]; omega
  have k12 : (kd == 12) = false := by rw [beq_eq_false_iff_ne]; omega
  have k13 : (kd == 13) = false := by rw [beq_eq_false_iff_ne]; omega
  have k14 : (kd == 14) = false := by rw [beq_eq_false_iff_ne]; omega
  have k15 : (kd == 15) = false := by rw [beq_eq_false_iff_ne]; omega
  have k16 : (kd == 16) = false := by rw [beq_eq_false_iff_ne]; omega
  have k17 : (kd == 17) = true := by rw [beq_iff_eq]; omega
  clear hk
  have he : ((n : Int) == (n : Int)) = true := by simp
  go_enter Tryd.func25, Tryd.ntmps25
  go_wp2_with fail
  go_region_held3 (fun w' => w'.cell? ⟨p, 0, none⟩ = some (.pointer (some ⟨b, 0, none⟩)) ∧ w'.cell? ⟨p, 1, none⟩ = some (.pointer (some ⟨r, 0, none⟩)) ∧ w'.cell? ⟨r, 0, none⟩ = some (.slice ao n cap)) (go_keep)
    (first | (go_at_call 18; refine calls_same (len_any (by exact HP.out.map)) ?_))
  all_goals (try go_wp2)
  go_ret
  exact ⟨rfl, S, HP.out.quiet (Out.refl _ _ _).drew, HO1.out.drew.any _ _⟩
set_option maxRecDepth 100000 in
set_option maxHeartbeats 4000000 in
theorem looked_else {w : World} {lo hi p n : Nat} {S : Nat → Bool} {b r g l1 h1 l2 h2 : Nat} (h : PairIn w lo hi p n S S b r g l1 h1 l2 h2) (z kd x y c : Int) (hx : x < 9223372036854775808) (hk : kd < 10 ∨ 17 < kd) :
    Calls Tryd.prog 25 #[.pointer (some ⟨p, 0, none⟩), .agg #[.int .i64 z, .int .i64 kd, .int .i64 x, .int .i64 y, .int .i64 c]] w fun e w' => e = .returned (.bool true) ∧ ∃ S', PairIn w' lo hi p n S' S' b r g l1 h1 l2 h2 ∧ Out lo hi w w' := by
  have hlim := h.lim
  have hP := h.quiet ((Out.refl 0 0 w).alloc (.cells #[.int .i64 z, .int .i64 kd, .int .i64 x, .int .i64 y, .int .i64 c] 52))
  have hO : OpAt (w.alloc (.cells #[.int .i64 z, .int .i64 kd, .int .i64 x, .int .i64 y, .int .i64 c] 52)) w.heap.size (z, kd, x, y, c) := heap_alloc_new _ _
  have o1 : Out 0 0 w (w.alloc (.cells #[.int .i64 z, .int .i64 kd, .int .i64 x, .int .i64 y, .int .i64 c] 52)) := (Out.refl _ _ _).alloc _
  obtain ⟨q0, q1, q2, q3, q4⟩ := hO.cells
  obtain ⟨d0, d1, d3⟩ := hP.cells
  obtain ⟨ao, cap, d2⟩ := hP.ref.field
  simp only at q0 q1 q2 q3 q4
  have HP := hid_mk hP
  have HO1 := hid_mk o1
  have HL := hid_mk hlim
  have HXX := hid_mk hx
  clear h hP hO o1 hlim hx
  have k10 : (kd == 10) = false := by rw [beq_eq_false_iff_ne]; omega
  have k11 : (kd == 11) = false := by rw [beq_eq_false_iff_ne]; omega
  have k12 : (kd == 12) = false := by rw [beq_eq_false_iff_ne]; omega
  have k13 : (kd == 13) = false := by rw [beq_eq_false_iff_ne]; omega
  have k14 : (kd == 14) = false := by rw [beq_eq_false_iff_ne]; omega
  have k15 : (kd == 15) = false := by rw [beq_eq_false_iff_ne]; omega
  have k16 : (kd == 16) = false := by rw [beq_eq_false_iff_ne]; omega
  have k17 : (kd == 17) = false := by rw [beq_eq_false_iff_ne]; omega
  clear hk
  go_enter Tryd.func25, Tryd.ntmps25
  go_wp2
  go_ret
  exact ⟨rfl, S, HP.out, HO1.out.any _ _⟩
end Go.Proofs.YtnkobcldagajeaaDoor
