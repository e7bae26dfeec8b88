/- looked -/
import Derived.Test.YtnkobcldagajeaaDoorLf
import Derived.Test.YtnkobcldagajeaaDoorRd
namespace Go.Proofs.YtnkobcldagajeaaDoor
open Go.RowKit
set_option linter.unusedVariables false
set_option linter.unusedSimpArgs false

set_option maxRecDepth 100000 in
set_option maxHeartbeats 4000000 in
theorem looked_11 {w : World} {lo hi p n : Nat} {S : Nat → Bool} {b r g l1 h1 l2 h2 : Nat} (h : PairIn w lo hi p n S S b r g l1 h1 l2 h2) (z kd x y c : Int) (hx : x < 9223372036854775808) (hk : kd = 11) :
    Calls Tryd.prog 25 #[.pointer (some ⟨p, 0, none⟩), .agg #[.int .i64 z, .int .i64 kd, .int .i64 x, .int .i64 y, .int .i64 c]] w fun e w' => e = .returned (.bool true) ∧ ∃ S', PairIn w' lo hi p n S' S' b r g l1 h1 l2 h2 ∧ Out lo hi w w' := by
  have hlim := h.lim
  have hP := h.quiet ((Out.refl 0 0 w).alloc (.cells #[.int .i64 z, .int .i64 kd, .int .i64 x, .int .i64 y, .int .i64 c] 52))
  have hO : OpAt (w.alloc (.cells #[.int .i64 z, .int .i64 kd, .int .i64 x, .int .i64 y, .int .i64 c] 52)) w.heap.size (z, kd, x, y, c) := heap_alloc_new _ _
  have o1 : Out 0 0 w (w.alloc (.cells #[.int .i64 z, .int .i64 kd, .int .i64 x, .int .i64 y, .int .i64 c] 52)) := (Out.refl _ _ _).alloc _
  obtain ⟨q0, q1, q2, q3, q4⟩ := hO.cells
  obtain ⟨d0, d1, d3⟩ := hP.cells
  obtain ⟨ao, cap, d2⟩ := hP.ref.field
  simp only at q0 q1 q2 q3 q4
  have HP := hid_mk hP
  have HO1 := hid_mk o1
  have HL := hid_mk hlim
  have HXX := hid_mk hx
  clear h hP hO o1 hlim hx
  have k10 : (kd == 10) = false := by rw [beq_eq_false_iff_ne]; omega
  have k11 : (kd == 11) = true := by rw [beq_iff_eq]; omega
  clear hk
  have hrc := fun w' (h : RefAt w' l2 h2 r n S) => refCount_any h 0 n
  rw [show (min (n : Int) n).toNat = n from by omega, show (0 : Int).toNat = 0 from rfl, cntR_zero] at hrc
  have HRC := hid_mk hrc
  clear hrc
  obtain ⟨c1, hc1⟩ : ∃ c1, cnt S n = c1 := ⟨_, rfl⟩
  obtain ⟨c2, hc2⟩ : ∃ c2, cntR S x.toNat (min y n).toNat = c2 := ⟨_, rfl⟩
  have HC1 := hid_mk (fun w' (h : MapAt w' l1 h1 b n S) => count_any h)
  have HC2 := hid_mk (fun w' (h : MapAt w' l1 h1 b n S) => countRange_any h x y HXX.out)
  have HC3 := hid_mk (fun w' (h : RefAt w' l2 h2 r n S) => refCount_any h x y)
  rw [hc1] at HRC HC1
  rw [hc2] at HC2 HC3
  have he : ((c1 : Int) == (c1 : Int)) = true := by simp
  have he2 : ((c2 : Int) == (c2 : Int)) = true := by simp
  clear hc1 hc2
  go_enter Tryd.func25, Tryd.ntmps25
  go_wp2_with fail
  go_region_held3 (fun w' => w'.cell? ⟨p, 0, none⟩ = some (.pointer (some ⟨b, 0, none⟩)) ∧ w'.cell? ⟨p, 1, none⟩ = some (.pointer (some ⟨r, 0, none⟩)) ∧ w'.cell? ⟨w.heap.size, 2, none⟩ = some (.int .i64 x) ∧ w'.cell? ⟨w.heap.size, 3, none⟩ = some (.int .i64 y) ∧ w'.cell? ⟨r, 0, none⟩ = some (.slice ao n cap)) (first | go_keep | (refine ⟨?_, ?_, ?_, ?_, ?_⟩ <;> exact hOO.cell (by assumption) (.inr (Nat.zero_le _))) | (refine ⟨?_, ?_, ?_, ?_, ?_⟩ <;> exact hO3.cell (hOO.cell (by assumption) (.inr (Nat.zero_le _))) (.inr (Nat.zero_le _))))
    (first | (go_at_call 17; refine (HC1.out _ (by exact HP.out.map)).mono ?_; rintro e w2 ⟨rfl, hOO⟩) | (go_at_call_of 40 (Value.int IntKind.i64 ↑n); refine calls_same (HRC.out _ (by exact (HP.out.quiet (show Out 0 0 _ w2 from hOO)).ref)) ?_) | (go_at_call 29; refine (HC2.out _ (HP.out.quiet (show Out 0 0 _ w2 from hOO)).map).mono ?_; rintro e w3 ⟨rfl, hO3⟩) | (go_at_call 40; refine calls_same (HC3.out _ ((HP.out.quiet (show Out 0 0 _ w2 from hOO)).quiet hO3).ref) ?_))
  have HF : Hid (Out 0 0 w w3) := HO1.out.trans ((show Out 0 0 _ w2 from hOO).trans hO3)
  have HQ : Hid (PairIn w3 lo hi p n S S b r g l1 h1 l2 h2) := (HP.out.quiet (show Out 0 0 _ w2 from hOO)).quiet hO3
  clear hOO hO3
  all_goals (try go_wp2)
  go_ret
  exact ⟨rfl, S, HQ.out, HF.out.any _ _⟩
end Go.Proofs.YtnkobcldagajeaaDoor
