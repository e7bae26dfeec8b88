/- SetRange, ClearRange, CountRange, Count -/
import Derived.Test.YtnkobcldagajeabDoorBg
import Derived.Test.YtnkobcldagajeabDoorBh
import Derived.Test.YtnkobcldagajeabDoorBi
namespace Go.Proofs.YtnkobcldagajeabDoor
open Go.RowKit
set_option linter.unusedVariables false
set_option linter.unusedSimpArgs false

def rngE (n : Nat) (a t : Int) : Int := if inR n a t = true then 0 else 10
def rngS (S : Nat → Bool) (n : Nat) (a t : Int) (v : Bool) : Nat → Bool := if inR n a t = true then fill S a.toNat t.toNat v else S
theorem inR_nat {n : Nat} {a t : Int} (h : inR n a t = true) : ∃ x y : Nat, a = x ∧ t = y ∧ x ≤ y ∧ y ≤ n := by
  simp [inR] at h
  exact ⟨a.toNat, t.toNat, by omega, by omega, by omega, by omega⟩
theorem fill_beyond {S : Nat → Bool} {n a t : Nat} {v : Bool} (h : ∀ j, n ≤ j → S j = false) (ht : t ≤ n) : ∀ j, n ≤ j → fill S a t v j = false := fun j hj => by
  unfold fill; rw [if_neg (by omega)]; exact h j hj
set_option maxHeartbeats 1000000 in
theorem setRange_yes {w : World} {lo hi b n : Nat} {S : Nat → Bool} (h : MapAt w lo hi b n S) (a t : Nat) (h1 : a ≤ t) (h2 : t ≤ n) :
    Calls Tryd.prog 11 #[.pointer (some ⟨b, 0, none⟩), .int .i64 a, .int .i64 t] w fun e w' => e = .returned (.int .i64 0) ∧ MapAt w' lo hi b n (fill S a t true) ∧ Out lo hi w w' := by
  have hb5 := h.bounds
  have hM := h.alloc (.cells #[.pointer (some ⟨b, 0, none⟩)] 24)
  have hB := Box.new w 24 (.pointer (some ⟨b, 0, none⟩))
  have hO : Out lo hi w (w.alloc (.cells #[.pointer (some ⟨b, 0, none⟩)] 24)) := (Out.refl _ _ _).alloc _
  have HR := hid_mk (hasRange_any hM a t)
  rw [show inR n a t = true by simp [inR]; omega] at HR
  have HP := hid_mk (piecesSet w.heap.size (fun s w' => MapAt w' lo hi b n (fill S a (min (64 * s) t) true) ∧ Box w' w.heap.size 24 (.pointer (some ⟨b, 0, none⟩)) ∧ Out lo hi w w')
    (fun s w' ⟨x1, x2, x3⟩ => ⟨x1.drew, x2, x3.drew⟩) a t (by omega) (by omega)
    (fun s w' hs hl ⟨x1, x2, x3⟩ => (setPiece x1 x2 (by omega) s (by unfold nw; omega) _ (msk_lt _ _) (fill S a (min (64 * (s + 1)) t) true)
        (by rw [show ((t : Int)).toNat = t from by omega, show 64 * (s + 1) = 64 * s + 64 from by omega]; exact pk_fill_set S a t s)
        (fun i hi => by rw [show 64 * (s + 1) = 64 * s + 64 from by omega]; exact (pk_fill_other S a t i s true hi).symm) (fill_beyond hb5.2.2.2.2.2 (by omega))).mono
      fun e w2 ⟨y1, y2, y3⟩ => ⟨y1, y2, x2.kept y3 (.inr hb5.2.2.1), x3.trans y3⟩)
    (w := w.alloc (.cells #[.pointer (some ⟨b, 0, none⟩)] 24)) ⟨by rw [fill_nil _ _ _ _ (by omega)]; exact hM, hB, hO⟩)
  have c0 := hB.cell
  clear h hM hB hO hb5
  go_enter Tryd.func11, Tryd.ntmps11
  go_wp2_with (first
    | (go_at_call 27; refine calls_same HR.out ?_)
    | (go_at_call 24; refine HP.out.mono ?_; rintro e w2 ⟨rfl, s, z1, z2, z3, z4, z5, z6⟩))
  go_ret
  refine ⟨rfl, ?_, by assumption⟩
  rw [show min (64 * s) t = t from by omega] at z4
  exact z4
theorem setRange_no {w : World} {lo hi b n : Nat} {S : Nat → Bool} (h : MapAt w lo hi b n S) (a t : Int) (h1 : inR n a t = false) :
    Calls Tryd.prog 11 #[.pointer (some ⟨b, 0, none⟩), .int .i64 a, .int .i64 t] w fun e w' => e = .returned (.int .i64 10) ∧ Out 0 0 w w' := by
  have hM := h.alloc (.cells #[.pointer (some ⟨b, 0, none⟩)] 24)
  have HR := hid_mk (hasRange_any hM a t)
  rw [h1] at HR
  clear h hM h1
  go_enter Tryd.func11, Tryd.ntmps11
  go_wp2_with (go_at_call 27; refine calls_same HR.out ?_)
  go_ret
  exact ⟨rfl, (Out.refl _ _ _).alloc _⟩
theorem setRange_any {w : World} {lo hi b n : Nat} {S : Nat → Bool} (h : MapAt w lo hi b n S) (a t : Int) :
    Calls Tryd.prog 11 #[.pointer (some ⟨b, 0, none⟩), .int .i64 a, .int .i64 t] w fun e w' => e = .returned (.int .i64 (rngE n a t)) ∧ MapAt w' lo hi b n (rngS S n a t true) ∧ Out lo hi w w' := by
  unfold rngE rngS
  by_cases hr : inR n a t = true
  · rw [if_pos hr, if_pos hr]
    obtain ⟨x, y, rfl, rfl, h1, h2⟩ := inR_nat hr
    rw [Int.toNat_natCast, Int.toNat_natCast]
    exact setRange_yes h x y h1 h2
  · rw [if_neg hr, if_neg hr]
    exact (setRange_no h a t (by simpa using hr)).mono fun e w' ⟨y1, y2⟩ => ⟨y1, h.quiet y2, y2.any _ _⟩
set_option maxHeartbeats 1000000 in
theorem clearRange_yes {w : World} {lo hi b n : Nat} {S : Nat → Bool} (h : MapAt w lo hi b n S) (a t : Nat) (h1 : a ≤ t) (h2 : t ≤ n) :
    Calls Tryd.prog 12 #[.pointer (some ⟨b, 0, none⟩), .int .i64 a, .int .i64 t] w fun e w' => e = .returned (.int .i64 0) ∧ MapAt w' lo hi b n (fill S a t false) ∧ Out lo hi w w' := by
  have hb5 := h.bounds
  have hM := h.alloc (.cells #[.pointer (some ⟨b, 0, none⟩)] 24)
  have hB := Box.new w 24 (.pointer (some ⟨b, 0, none⟩))
  have hO : Out lo hi w (w.alloc (.cells #[.pointer (some ⟨b, 0, none⟩)] 24)) := (Out.refl _ _ _).alloc _
  have HR := hid_mk (hasRange_any hM a t)
  rw [show inR n a t = true by simp [inR]; omega] at HR
  have HP := hid_mk (piecesClear w.heap.size (fun s w' => MapAt w' lo hi b n (fill S a (min (64 * s) t) false) ∧ Box w' w.heap.size 24 (.pointer (some ⟨b, 0, none⟩)) ∧ Out lo hi w w')
    (fun s w' ⟨x1, x2, x3⟩ => ⟨x1.drew, x2, x3.drew⟩) a t (by omega) (by omega)
    (fun s w' hs hl ⟨x1, x2, x3⟩ => (clearPiece x1 x2 (by omega) s (by unfold nw; omega) _ (msk_lt _ _) (fill S a (min (64 * (s + 1)) t) false)
        (by rw [show ((t : Int)).toNat = t from by omega, show 64 * (s + 1) = 64 * s + 64 from by omega]; exact pk_fill_clear S a t s)
        (fun i hi => by rw [show 64 * (s + 1) = 64 * s + 64 from by omega]; exact (pk_fill_other S a t i s false hi).symm) (fill_beyond hb5.2.2.2.2.2 (by omega))).mono
      fun e w2 ⟨y1, y2, y3⟩ => ⟨y1, y2, x2.kept y3 (.inr hb5.2.2.1), x3.trans y3⟩)
    (w := w.alloc (.cells #[.pointer (some ⟨b, 0, none⟩)] 24)) ⟨by rw [fill_nil _ _ _ _ (by omega)]; exact hM, hB, hO⟩)
  have c0 := hB.cell
  clear h hM hB hO hb5
  go_enter Tryd.func12, Tryd.ntmps12
  go_wp2_with (first
    | (go_at_call 27; refine calls_same HR.out ?_)
    | (go_at_call 24; refine HP.out.mono ?_; rintro e w2 ⟨rfl, s, z1, z2, z3, z4, z5, z6⟩))
  go_ret
  refine ⟨rfl, ?_, by assumption⟩
  rw [show min (64 * s) t = t from by omega] at z4
  exact z4
theorem clearRange_no {w : World} {lo hi b n : Nat} {S : Nat → Bool} (h : MapAt w lo hi b n S) (a t : Int) (h1 : inR n a t = false) :
    Calls Tryd.prog 12 #[.pointer (some ⟨b, 0, none⟩), .int .i64 a, .int .i64 t] w fun e w' => e = .returned (.int .i64 10) ∧ Out 0 0 w w' := by
  have hM := h.alloc (.cells #[.pointer (some ⟨b, 0, none⟩)] 24)
  have HR := hid_mk (hasRange_any hM a t)
  rw [h1] at HR
  clear h hM h1
  go_enter Tryd.func12, Tryd.ntmps12
  go_wp2_with (go_at_call 27; refine calls_same HR.out ?_)
  go_ret
  exact ⟨rfl, (Out.refl _ _ _).alloc _⟩
theorem clearRange_any {w : World} {lo hi b n : Nat} {S : Nat → Bool} (h : MapAt w lo hi b n S) (a t : Int) :
    Calls Tryd.prog 12 #[.pointer (some ⟨b, 0, none⟩), .int .i64 a, .int .i64 t] w fun e w' => e = .returned (.int .i64 (rngE n a t)) ∧ MapAt w' lo hi b n (rngS S n a t false) ∧ Out lo hi w w' := by
  unfold rngE rngS
  by_cases hr : inR n a t = true
  · rw [if_pos hr, if_pos hr]
    obtain ⟨x, y, rfl, rfl, h1, h2⟩ := inR_nat hr
    rw [Int.toNat_natCast, Int.toNat_natCast]
    exact clearRange_yes h x y h1 h2
  · rw [if_neg hr, if_neg hr]
    exact (clearRange_no h a t (by simpa using hr)).mono fun e w' ⟨y1, y2⟩ => ⟨y1, h.quiet y2, y2.any _ _⟩
set_option maxHeartbeats 1000000 in
theorem countRange_any {w : World} {lo hi b n : Nat} {S : Nat → Bool} (h : MapAt w lo hi b n S) (a t : Int) (ha : a < 9223372036854775808) :
    Calls Tryd.prog 10 #[.pointer (some ⟨b, 0, none⟩), .int .i64 a, .int .i64 t] w fun e w' => e = .returned (.int .i64 (cntR S a.toNat (min t n).toNat)) ∧ Out 0 0 w w' := by
  have hb5 := h.bounds
  have hM := (h.alloc (.cells #[.pointer (some ⟨b, 0, none⟩)] 24)).alloc (.cells #[.int .i64 0] 3)
  have hB := (Box.new w 24 (.pointer (some ⟨b, 0, none⟩))).alloc (.cells #[.int .i64 0] 3)
  have hC : Box ((w.alloc (.cells #[.pointer (some ⟨b, 0, none⟩)] 24)).alloc (.cells #[.int .i64 0] 3)) (w.heap.size + 1) 3 (.int .i64 0) := heap_alloc2_new _ _ _
  have hO : Out 0 0 w ((w.alloc (.cells #[.pointer (some ⟨b, 0, none⟩)] 24)).alloc (.cells #[.int .i64 0] 3)) := ((Out.refl _ _ _).alloc _).alloc _
  have HL := hid_mk (len_any hM)
  obtain ⟨x, hx, hx2⟩ : ∃ x : Nat, a.toNat = x ∧ x < 9223372036854775808 := ⟨a.toNat, rfl, by omega⟩
  obtain ⟨y, hy, hy2⟩ : ∃ y : Int, min t n = y ∧ y ≤ n := ⟨_, rfl, by omega⟩
  have HP := hid_mk (piecesCount (w.heap.size + 1) w.heap.size (fun s w' => MapAt w' lo hi b n S ∧ Box w' w.heap.size 24 (.pointer (some ⟨b, 0, none⟩)) ∧ Box w' (w.heap.size + 1) 3 (.int .i64 (cntR S x (min (64 * s) y.toNat))) ∧ Out 0 0 w w')
    (fun s w' ⟨x1, x2, x3, x4⟩ => ⟨x1.drew, x2, x3, x4.drew⟩) x y hx2 (by omega)
    (fun s w' hs hl ⟨x1, x2, x3, x4⟩ => (countPiece x1 x2 x3 (by omega) (by have := cntR_le S x (min (64 * s) y.toNat); omega) (by omega) s (by unfold nw; omega) _ (msk_lt _ _)).mono
      fun e w2 ⟨y1, y2, y3⟩ => ⟨y1, x1.kept y3 (.inl (by omega)) (.inl (by omega)), x2.kept y3 (.inl (by omega)), by
        have := piece_pop S x y.toNat s
        rw [show 64 * (s + 1) = 64 * s + 64 from by omega, ← this]
        simpa using y2, x4.past y3 (by omega)⟩)
    (w := (w.alloc (.cells #[.pointer (some ⟨b, 0, none⟩)] 24)).alloc (.cells #[.int .i64 0] 3)) ⟨hM, hB, by rw [cntR_nil _ _ _ (by omega)]; exact hC, hO⟩)
  have c0 := hB.cell
  have c1 := hC.cell
  have c2 := hC.frozen
  rw [hx, hy]
  clear h hM hB hO hb5 hC
  by_cases h0 : 0 ≤ a
  · obtain rfl : a = x := by omega
    by_cases h1 : t ≤ n
    · obtain rfl : y = t := by omega
      clear hy hx ha hx2
      go_enter Tryd.func10, Tryd.ntmps10
      go_wp2_with (first
        | (go_at_call 23; refine calls_same HL.out ?_)
        | (go_at_call 24; refine HP.out.mono ?_; rintro e w2 ⟨rfl, s, z1, z2, z3, z4, z5, z6, z7⟩; have z8 := z6.cell; clear c0 c1 c2))
      go_ret
      exact ⟨ret_int (by first | rfl | (congr 2; omega)), by assumption⟩
    · obtain rfl : y = n := by omega
      have h2 : (n : Int) < t := by omega
      clear hy hx ha hx2 h1
      go_enter Tryd.func10, Tryd.ntmps10
      go_wp2_with (first
        | (go_at_call 23; refine calls_same HL.out ?_)
        | (go_at_call 24; refine HP.out.mono ?_; rintro e w2 ⟨rfl, s, z1, z2, z3, z4, z5, z6, z7⟩; have z8 := z6.cell; clear c0 c1 c2))
      go_ret
      exact ⟨ret_int (by first | rfl | (congr 2; omega)), by assumption⟩
  · obtain rfl : x = 0 := by omega
    have h3 : a < 0 := by omega
    rw [show ((0 : Nat) : Int) = 0 from rfl] at HP
    by_cases h1 : t ≤ n
    · obtain rfl : y = t := by omega
      clear hy hx ha hx2 h0
      go_enter Tryd.func10, Tryd.ntmps10
      go_wp2_with (first
        | (go_at_call 23; refine calls_same HL.out ?_)
        | (go_at_call 24; refine HP.out.mono ?_; rintro e w2 ⟨rfl, s, z1, z2, z3, z4, z5, z6, z7⟩; have z8 := z6.cell; clear c0 c1 c2))
      go_ret
      exact ⟨ret_int (by first | rfl | (congr 2; omega)), by assumption⟩
    · obtain rfl : y = n := by omega
      have h2 : (n : Int) < t := by omega
      clear hy hx ha hx2 h1 h0
      go_enter Tryd.func10, Tryd.ntmps10
      go_wp2_with (first
        | (go_at_call 23; refine calls_same HL.out ?_)
        | (go_at_call 24; refine HP.out.mono ?_; rintro e w2 ⟨rfl, s, z1, z2, z3, z4, z5, z6, z7⟩; have z8 := z6.cell; clear c0 c1 c2))
      go_ret
      exact ⟨ret_int (by first | rfl | (congr 2; omega)), by assumption⟩
theorem count_any {w : World} {lo hi b n : Nat} {S : Nat → Bool} (h : MapAt w lo hi b n S) :
    Calls Tryd.prog 13 #[.pointer (some ⟨b, 0, none⟩)] w fun e w' => e = .returned (.int .i64 (cnt S n)) ∧ Out 0 0 w w' := by
  have HL := hid_mk (len_any h)
  have hc := countRange_any h 0 n (by omega)
  rw [show (min (n : Int) n).toNat = n from by omega, show (0 : Int).toNat = 0 from rfl, cntR_zero] at hc
  have HC := hid_mk hc
  clear hc h
  go_enter Tryd.func13, Tryd.ntmps13
  go_wp2_with (first
    | (go_at_call 23; refine calls_same HL.out ?_)
    | (go_at_call 10; refine HC.out.mono ?_; rintro e w2 ⟨rfl, hg⟩))
  go_ret
  exact ⟨rfl, hg⟩
end Go.Proofs.YtnkobcldagajeabDoor
