import Derived.Test.YtcpignkjlnjjmaaDoorNk04
import Derived.Test.YtcpignkjlnjjmaaDoorNk01
import Derived.Deep.OwnRows
import Derived.Shelf.Spec.TrailingZeros
import Derived.Laws.Bits128
namespace Go.Proofs.YtcpignkjlnjjmaaDoor
open Go
set_option linter.unusedVariables false
set_option linter.unusedSimpArgs false

theorem and_bytes (h l c d : Nat) (hl : l < 256) (hd : d < 256) : (256 * h + l) &&& (256 * c + d) = 256 * (h &&& c) + (l &&& d) := by
  have hx : l &&& d < 2 ^ 8 := Nat.and_lt_two_pow _ hd
  apply Nat.eq_of_testBit_eq
  intro j
  have e1 := Nat.testBit_two_pow_mul_add h (i := 8) (b := l) hl j
  have e2 := Nat.testBit_two_pow_mul_add c (i := 8) (b := d) hd j
  have e3 := Nat.testBit_two_pow_mul_add (h &&& c) (i := 8) (b := l &&& d) hx j
  have p : (2 : Nat) ^ 8 = 256 := rfl
  rw [p] at e1 e2 e3
  rw [Nat.testBit_and, e1, e2, e3]
  split <;> rw [Nat.testBit_and]
def rep (c : Nat) : Nat → Nat
  | 0 => 0
  | k + 1 => 256 * rep c k + c
def f1 (k x : Nat) : Nat := (x / 2 &&& rep 85 k) + (x &&& rep 85 k)
def f2 (k x : Nat) : Nat := (x / 4 &&& rep 51 k) + (x &&& rep 51 k)
def f3 (k x : Nat) : Nat := (x / 16 + x) &&& rep 15 k
def g1 (l : Nat) : Nat := (l / 2 &&& 85) + (l &&& 85)
def g2 (l : Nat) : Nat := (l / 4 &&& 51) + (l &&& 51)
theorem low1 : ∀ b : Fin 2, ∀ l : Fin 256, (128 * b.val + l.val / 2) &&& 85 = (l.val / 2) &&& 85 := by decide +kernel
theorem low2 : ∀ b : Fin 4, ∀ l : Fin 256, (64 * b.val + l.val / 4) &&& 51 = (l.val / 4) &&& 51 := by decide +kernel
theorem g1_lt : ∀ l : Fin 256, g1 l.val < 256 := by decide +kernel
theorem g12_nib : ∀ l : Fin 256, g2 (g1 l.val) % 16 ≤ 4 ∧ g2 (g1 l.val) / 16 ≤ 4 := by decide +kernel
theorem p8_cnt : ∀ l : Fin 256, g2 (g1 l.val) / 16 + g2 (g1 l.val) % 16 = cnt l.val.testBit 8 := by decide +kernel
theorem f1_step (k h l : Nat) (hl : l < 256) : f1 (k + 1) (256 * h + l) = 256 * f1 k h + g1 l := by
  unfold f1 g1
  show ((256 * h + l) / 2 &&& (256 * rep 85 k + 85)) + ((256 * h + l) &&& (256 * rep 85 k + 85)) = _
  rw [show (256 * h + l) / 2 = 256 * (h / 2) + (128 * (h % 2) + l / 2) from by omega, and_bytes _ _ _ _ (by omega) (by omega), and_bytes _ _ _ _ hl (by omega)]
  have := low1 ⟨h % 2, by omega⟩ ⟨l, hl⟩
  simp only at this
  rw [this]; omega
theorem f2_step (k h l : Nat) (hl : l < 256) : f2 (k + 1) (256 * h + l) = 256 * f2 k h + g2 l := by
  unfold f2 g2
  show ((256 * h + l) / 4 &&& (256 * rep 51 k + 51)) + ((256 * h + l) &&& (256 * rep 51 k + 51)) = _
  rw [show (256 * h + l) / 4 = 256 * (h / 4) + (64 * (h % 4) + l / 4) from by omega, and_bytes _ _ _ _ (by omega) (by omega), and_bytes _ _ _ _ hl (by omega)]
  have := low2 ⟨h % 4, by omega⟩ ⟨l, hl⟩
  simp only at this
  rw [this]; omega
theorem f12_step (k h l : Nat) (hl : l < 256) : f2 (k + 1) (f1 (k + 1) (256 * h + l)) = 256 * f2 k (f1 k h) + g2 (g1 l) := by
  have := g1_lt ⟨l, hl⟩
  rw [f1_step k h l hl, f2_step _ _ _ this]
theorem f12_nib (k x : Nat) : f2 k (f1 k x) % 16 ≤ 4 := by
  cases k with
  | zero => simp [f2, f1, rep]
  | succ k =>
    rw [show x = 256 * (x / 256) + x % 256 from by omega, f12_step _ _ _ (by omega)]
    have := g12_nib ⟨x % 256, by omega⟩
    simp only at this
    omega
theorem f123_step (k h l : Nat) (hl : l < 256) : f3 (k + 1) (f2 (k + 1) (f1 (k + 1) (256 * h + l))) = 256 * f3 k (f2 k (f1 k h)) + cnt l.testBit 8 := by
  rw [f12_step _ _ _ hl]
  have h1 := f12_nib k h
  have h2 := g12_nib ⟨l, hl⟩
  have h3 := p8_cnt ⟨l, hl⟩
  simp only at h2 h3
  rw [← h3]
  generalize f2 k (f1 k h) = H at *
  generalize g2 (g1 l) = L at *
  unfold f3
  show ((256 * H + L) / 16 + (256 * H + L)) &&& (256 * rep 15 k + 15) = _
  rw [show (256 * H + L) / 16 + (256 * H + L) = 256 * (H / 16 + H) + (16 * (H % 16) + L / 16 + L) from by omega, and_bytes _ _ _ _ (by omega) (by omega)]
  rw [show (15 : Nat) = 2 ^ 4 - 1 from rfl, Nat.and_two_pow_sub_one_eq_mod]
  omega
theorem cnt_byte (x k : Nat) : cnt x.testBit (8 + k) = cnt (x % 256).testBit 8 + cnt (x / 256).testBit k := by
  rw [cnt_add]
  congr 1
  · refine cnt_congr fun j hj => ?_
    rw [show (256 : Nat) = 2 ^ 8 from rfl, Nat.testBit_mod_two_pow]; simp [hj]
  · refine cnt_congr fun j hj => ?_
    rw [show (256 : Nat) = 2 ^ 8 from rfl, Nat.testBit_div_two_pow]
    rw [Nat.add_comm]
theorem f123_byte (k x : Nat) : f3 (k + 1) (f2 (k + 1) (f1 (k + 1) x)) = 256 * f3 k (f2 k (f1 k (x / 256))) + cnt (x % 256).testBit 8 := by
  have := f123_step k (x / 256) (x % 256) (by omega)
  rw [show 256 * (x / 256) + x % 256 = x from by omega] at this
  exact this
theorem m55 : rep 85 8 = 6148914691236517205 := by simp [rep]
theorem m33 : rep 51 8 = 3689348814741910323 := by simp [rep]
theorem m0f : rep 15 8 = 1085102592571150095 := by simp [rep]
theorem gather (y h1 h2 h3 h4 h5 h6 h7 p0 p1 p2 p3 p4 p5 p6 : Nat) (b0 : p0 ≤ 8) (b1 : p1 ≤ 8) (b2 : p2 ≤ 8) (b3 : p3 ≤ 8) (b4 : p4 ≤ 8) (b5 : p5 ≤ 8) (b6 : p6 ≤ 8) (b7 : h7 ≤ 8)
    (e0 : y = 256 * h1 + p0) (e1 : h1 = 256 * h2 + p1) (e2 : h2 = 256 * h3 + p2) (e3 : h3 = 256 * h4 + p3) (e4 : h4 = 256 * h5 + p4) (e5 : h5 = 256 * h6 + p5) (e6 : h6 = 256 * h7 + p6) :
    y + y / 256 < 18446744073709551616 ∧ (y + y / 256) + (y + y / 256) / 65536 < 18446744073709551616 ∧ ((y + y / 256) + (y + y / 256) / 65536) + ((y + y / 256) + (y + y / 256) / 65536) / 4294967296 < 18446744073709551616 ∧
      (((y + y / 256) + (y + y / 256) / 65536) + ((y + y / 256) + (y + y / 256) / 65536) / 4294967296) % 128 = p0 + p1 + p2 + p3 + p4 + p5 + p6 + h7 := by
  have l6 : h6 ≤ 256 * 8 + 8 := by omega
  have l5 : h5 ≤ 256 * 2056 + 8 := by omega
  have l4 : h4 ≤ 256 * 526344 + 8 := by omega
  have l3 : h3 ≤ 256 * 134744072 + 8 := by omega
  have l2 : h2 ≤ 256 * 34494482440 + 8 := by omega
  have l1 : h1 ≤ 256 * 8830587504648 + 8 := by omega
  have a1 : y / 256 = h1 := by clear e1 e2 e3 e4 e5 e6; omega
  rw [a1]
  have a2 : (y + h1) / 65536 = h2 + h3 := by
    have : y + h1 = 65536 * (h2 + h3) + (256 * (p1 + p2) + (p0 + p1)) := by clear e3 e4 e5 e6; omega
    rw [this]; clear e0 e1 e2 e3 e4 e5 e6 this; omega
  rw [a2]
  have a3 : (y + h1 + (h2 + h3)) / 4294967296 = h4 + h5 + h6 + h7 := by
    have t0 : y = 4294967296 * h4 + (16777216 * p3 + 65536 * p2 + 256 * p1 + p0) := by clear e4 e5 e6; omega
    have t1 : h1 = 4294967296 * h5 + (16777216 * p4 + 65536 * p3 + 256 * p2 + p1) := by clear e0 e5 e6; omega
    have t2 : h2 = 4294967296 * h6 + (16777216 * p5 + 65536 * p4 + 256 * p3 + p2) := by clear e0 e1 e6; omega
    have t3 : h3 = 4294967296 * h7 + (16777216 * p6 + 65536 * p5 + 256 * p4 + p3) := by clear e0 e1 e2; omega
    clear e0 e1 e2 e3 e4 e5 e6 a1 a2
    omega
  rw [a3]
  clear a1 a2 a3
  refine ⟨by clear e1 e2 e3 e4 e5 e6; omega, by clear e1 e2 e3 e4 e5 e6; omega, by clear e1 e2 e3 e4 e5 e6; omega, ?_⟩
  have : y + h1 + (h2 + h3) + (h4 + h5 + h6 + h7) = 128 * (2 * (h1 + h2 + h3 + h4 + h5 + h6 + h7)) + (p0 + p1 + p2 + p3 + p4 + p5 + p6 + h7) := by omega
  rw [this]
  clear e0 e1 e2 e3 e4 e5 e6 this
  omega
/-- the library's way, in whole numbers -/
def ocA (x : Nat) : Nat := (x / 2 &&& 6148914691236517205) + (x &&& 6148914691236517205)
def ocB (x : Nat) : Nat := (x / 4 &&& 3689348814741910323) + (x &&& 3689348814741910323)
def ocC (x : Nat) : Nat := (x / 16 + x) &&& 1085102592571150095
theorem cnt_byte' (x m k : Nat) (h : m = 8 + k) : cnt x.testBit m = cnt (x % 256).testBit 8 + cnt (x / 256).testBit k := by rw [h, cnt_byte]
theorem oc_f (x : Nat) : ocC (ocB (ocA x)) = f3 8 (f2 8 (f1 8 x)) := by unfold ocA ocB ocC f1 f2 f3; rw [m55, m33, m0f]
def fx (k x : Nat) : Nat := f3 k (f2 k (f1 k x))
theorem fx_zero (x : Nat) : fx 0 x = 0 := by simp [fx, f1, f2, f3, rep]
theorem fx_byte (k x : Nat) : fx (k + 1) x = 256 * fx k (x / 256) + cnt (x % 256).testBit 8 := f123_byte k x
theorem oc_pop (x : Nat) : ∃ y, ocC (ocB (ocA x)) = y ∧ y + y / 256 < 18446744073709551616 ∧ (y + y / 256) + (y + y / 256) / 65536 < 18446744073709551616 ∧ ((y + y / 256) + (y + y / 256) / 65536) + ((y + y / 256) + (y + y / 256) / 65536) / 4294967296 < 18446744073709551616 ∧
      (((y + y / 256) + (y + y / 256) / 65536) + ((y + y / 256) + (y + y / 256) / 65536) / 4294967296) % 128 = pop x := by
  have e : ocC (ocB (ocA x)) = fx 8 x := by rw [oc_f, fx]
  have hp : pop x = cnt x.testBit 64 := rfl
  obtain ⟨x1, h1⟩ : ∃ x1, x / 256 = x1 := ⟨_, rfl⟩
  obtain ⟨x2, h2⟩ : ∃ x2, x1 / 256 = x2 := ⟨_, rfl⟩
  obtain ⟨x3, h3⟩ : ∃ x3, x2 / 256 = x3 := ⟨_, rfl⟩
  obtain ⟨x4, h4⟩ : ∃ x4, x3 / 256 = x4 := ⟨_, rfl⟩
  obtain ⟨x5, h5⟩ : ∃ x5, x4 / 256 = x5 := ⟨_, rfl⟩
  obtain ⟨x6, h6⟩ : ∃ x6, x5 / 256 = x6 := ⟨_, rfl⟩
  obtain ⟨x7, h7⟩ : ∃ x7, x6 / 256 = x7 := ⟨_, rfl⟩
  have k0 := cnt_byte' x 64 56 rfl
  have k1 := cnt_byte' x1 56 48 rfl
  have k2 := cnt_byte' x2 48 40 rfl
  have k3 := cnt_byte' x3 40 32 rfl
  have k4 := cnt_byte' x4 32 24 rfl
  have k5 := cnt_byte' x5 24 16 rfl
  have k6 := cnt_byte' x6 16 8 rfl
  have k7 := cnt_byte' x7 8 0 rfl
  have z7 : cnt (x7 / 256).testBit 0 = 0 := rfl
  have y0 := fx_byte 7 x
  have y1 := fx_byte 6 x1
  have y2 := fx_byte 5 x2
  have y3 := fx_byte 4 x3
  have y4 := fx_byte 3 x4
  have y5 := fx_byte 2 x5
  have y6 := fx_byte 1 x6
  have y7 := fx_byte 0 x7
  rw [fx_zero] at y7
  rw [h1] at k0 y0
  rw [h2] at k1 y1
  rw [h3] at k2 y2
  rw [h4] at k3 y3
  rw [h5] at k4 y4
  rw [h6] at k5 y5
  rw [h7] at k6 y6
  have q0 := cnt_le (x % 256).testBit 8
  have q1 := cnt_le (x1 % 256).testBit 8
  have q2 := cnt_le (x2 % 256).testBit 8
  have q3 := cnt_le (x3 % 256).testBit 8
  have q4 := cnt_le (x4 % 256).testBit 8
  have q5 := cnt_le (x5 % 256).testBit 8
  have q6 := cnt_le (x6 % 256).testBit 8
  have q7 := cnt_le (x7 % 256).testBit 8
  refine ⟨fx 8 x, e, ?_⟩
  clear e h1 h2 h3 h4 h5 h6 h7
  generalize cnt (x % 256).testBit 8 = p0 at *
  generalize cnt (x1 % 256).testBit 8 = p1 at *
  generalize cnt (x2 % 256).testBit 8 = p2 at *
  generalize cnt (x3 % 256).testBit 8 = p3 at *
  generalize cnt (x4 % 256).testBit 8 = p4 at *
  generalize cnt (x5 % 256).testBit 8 = p5 at *
  generalize cnt (x6 % 256).testBit 8 = p6 at *
  generalize cnt (x7 % 256).testBit 8 = p7 at *
  have hp' : pop x = p0 + p1 + p2 + p3 + p4 + p5 + p6 + p7 := by
    rw [hp, k0, k1, k2, k3, k4, k5, k6]
    clear y0 y1 y2 y3 y4 y5 y6 y7 q0 q1 q2 q3 q4 q5 q6 q7 hp k0 k1 k2 k3 k4 k5 k6
    omega
  clear hp k0 k1 k2 k3 k4 k5 k6 k7 z7
  simp only [Nat.reduceAdd] at y0 y1 y2 y3 y4 y5 y6 y7
  have y7' : fx 1 x7 = p7 := by rw [y7]; omega
  rw [y7'] at y6
  obtain ⟨r1, r2, r3, r4⟩ := gather _ _ _ _ _ _ _ _ p0 p1 p2 p3 p4 p5 p6 q0 q1 q2 q3 q4 q5 q6 q7 y0 y1 y2 y3 y4 y5 y6
  exact ⟨r1, r2, r3, by rw [r4, hp']⟩
end Go.Proofs.YtcpignkjlnjjmaaDoor
namespace Go.Proofs.YtcpignkjlnjjmaaDoor
open Go.RowKit
set_option linter.unusedVariables false
set_option linter.unusedSimpArgs false

/-- how many words -/
def nw (n : Nat) : Nat := (n + 63) / 64
/-- block b is a bitmap.Map of the length n with the numbers of S, all of it among the blocks from lo on below hi -/
def MapAt (w : World) (lo hi b n : Nat) (S : Nat → Bool) : Prop :=
  ∃ (bw : Nat) (cap : Nat), w.heap[b]? = some (.cells #[.int .i64 n, .slice (some ⟨bw, 0, none⟩) (nw n) cap] 113 (0, 0)) ∧ lo ≤ b ∧ b < hi ∧ hi ≤ w.heap.size ∧ 4 ≤ lo ∧ n ≤ 262144 ∧ nw n ≤ cap ∧ (∀ j, n ≤ j → S j = false) ∧ Tab w ∧
    lo ≤ bw ∧ bw < hi ∧ bw ≠ b ∧ Row w bw 120 (nw n) (fun i => .int .u64 (pk S i))
theorem MapAt.kept {w w' : World} {lo hi b n lo' hi' : Nat} {S : Nat → Bool} (h : MapAt w lo hi b n S) (g : Out lo' hi' w w') (hd : hi ≤ lo' ∨ hi' ≤ lo) (hp : 4 ≤ lo' ∨ hi' = 0) : MapAt w' lo hi b n S := by
  obtain ⟨bw, cap, hb, h1, h2, h3, h4, h5, h6, h7, h8, l1, l2, l3, hr⟩ := h
  have hk : bw < lo' ∨ hi' ≤ bw := by omega
  exact ⟨bw, cap, g.heap hb (by omega), h1, h2, Nat.le_trans h3 g.size, h4, h5, h6, h7, h8.kept g (by omega), l1, l2, l3, hr.kept g hk⟩
theorem MapAt.quiet {w w' : World} {lo hi b n : Nat} {S : Nat → Bool} (h : MapAt w lo hi b n S) (g : Out 0 0 w w') : MapAt w' lo hi b n S := h.kept g (.inr (Nat.zero_le _)) (.inr rfl)
theorem MapAt.drew {w : World} {lo hi b n : Nat} {S : Nat → Bool} (h : MapAt w lo hi b n S) : MapAt w.drew lo hi b n S := h.quiet (Out.refl _ _ _).drew
theorem MapAt.alloc {w : World} {lo hi b n : Nat} {S : Nat → Bool} (h : MapAt w lo hi b n S) (o : Obj) : MapAt (w.alloc o) lo hi b n S := h.quiet ((Out.refl _ _ _).alloc o)
theorem MapAt.tab {w : World} {lo hi b n : Nat} {S : Nat → Bool} (h : MapAt w lo hi b n S) : Tab w := by
  obtain ⟨bw, cap, hb, h1, h2, h3, h4, h5, h6, h7, h8, h9⟩ := h
  exact h8
theorem MapAt.bounds {w : World} {lo hi b n : Nat} {S : Nat → Bool} (h : MapAt w lo hi b n S) : lo ≤ b ∧ b < hi ∧ hi ≤ w.heap.size ∧ 4 ≤ lo ∧ n ≤ 262144 ∧ ∀ j, n ≤ j → S j = false := by
  obtain ⟨bw, cap, hb, h1, h2, h3, h4, h5, h6, h7, h8, h9⟩ := h
  exact ⟨h1, h2, h3, h4, h5, h7⟩
theorem MapAt.len {w : World} {lo hi b n : Nat} {S : Nat → Bool} (h : MapAt w lo hi b n S) : w.cell? ⟨b, 0, none⟩ = some (.int .i64 n) := by
  obtain ⟨bw, cap, hb, _⟩ := h
  simp [World.cell?, hb]
end Go.Proofs.YtcpignkjlnjjmaaDoor
namespace Go.Proofs.YtcpignkjlnjjmaaDoor
open Go.RowKit
set_option linter.unusedVariables false
set_option linter.unusedSimpArgs false

theorem len_any {w : World} {lo hi b n : Nat} {S : Nat → Bool} (h : MapAt w lo hi b n S) :
    Calls Tryd.prog 84 #[.pointer (some ⟨b, 0, none⟩)] w fun e w' => e = .returned (.int .i64 n) ∧ w' = w := by
  have c0 := h.len
  go_enter Tryd.func84, Tryd.ntmps84
  go_wp2
  go_ret
  exact ⟨rfl, rfl⟩
theorem has_any {w : World} {lo hi b n : Nat} {S : Nat → Bool} (h : MapAt w lo hi b n S) (i : Int) :
    Calls Tryd.prog 78 #[.pointer (some ⟨b, 0, none⟩), .int .i64 i] w fun e w' => e = .returned (.bool (inB n i)) ∧ w' = w := by
  have H := hid_mk (len_any h)
  by_cases h0 : 0 ≤ i
  · by_cases h1 : i < n
    · have e : inB n i = true := by simp [inB, h0, h1]
      rw [e]
      go_enter Tryd.func78, Tryd.ntmps78
      go_wp2_with (go_at_call 84; refine calls_same H.out ?_)
      all_goals go_ret
      all_goals exact ⟨rfl, rfl⟩
    · have e : inB n i = false := by simp [inB, h1]
      rw [e]
      go_enter Tryd.func78, Tryd.ntmps78
      go_wp2_with (go_at_call 84; refine calls_same H.out ?_)
      all_goals go_ret
      all_goals exact ⟨ret_bool (by simp; omega), rfl⟩
  · have e : inB n i = false := by simp [inB, h0]
    rw [e]
    go_enter Tryd.func78, Tryd.ntmps78
    go_wp2_with (go_at_call 84; refine calls_same H.out ?_)
    all_goals go_ret
    all_goals exact ⟨rfl, rfl⟩
/-- the bit of i in its word -/
def bitN (i : Nat) : Nat := 2 ^ (i % 64)
theorem bitN_lt (i : Nat) : bitN i < 18446744073709551616 := Nat.pow_lt_pow_right (a := 2) (by omega) (show i % 64 < 64 by omega)
theorem bitN_pos (i : Nat) : 0 < bitN i := Nat.two_pow_pos _
set_option maxHeartbeats 400000 in
theorem bit_any (i : Nat) (w : World) (hi : i < 1000000) :
    Calls Tryd.prog 79 #[.int .i64 i] w fun e w' => e = .returned (.int .u64 (bitN i)) ∧ w' = w := by
  have h0 : (0 : Int) ≤ (i : Int) := by omega
  have h1 : (i : Int) < 1000000 := by omega
  go_enter Tryd.func79, Tryd.ntmps79
  go_wp2
  go_ret
  refine ⟨ret_int ?_, rfl⟩
  rw [IntKind.wrap_u64]
  have h2 := bitN_lt i
  have h3 : ((bitN i : Nat) : Int) = 2 ^ (i % 64) := by unfold bitN; simp
  show (2 : Int) ^ (i % 64) % 18446744073709551616 = _
  rw [← h3]
  omega
set_option maxHeartbeats 1000000 in
theorem tz_core (x k idx : Nat) (w : World) (hx0 : ((x : Int) == 0) = false)
    (key : IntKind.u64.wrap (bits BinOp.and IntKind.u64 (x : Int) (IntKind.u64.wrap (-(x : Int))) * 285870213051353865) / 288230376151711744 = (idx : Int))
    (hi : idx < 64) (hk : k < 64) (hcell : w.cell? ⟨3, idx, none⟩ = some (.int .u8 k)) :
    Calls Tryd.prog 90 #[.int .u64 x] w fun e w' => e = .returned (.int .i64 k) ∧ w' = w := by
  go_enter Tryd.func90, Tryd.ntmps90
  go_wp2_with (simp only [key])
  go_ret
  exact ⟨rfl, rfl⟩
theorem tz_any (x : Nat) (hx : x < 18446744073709551616) (hx0 : x ≠ 0) {w : World} (hT : Tab w) :
    Calls Tryd.prog 90 #[.int .u64 x] w fun e w' => e = .returned (.int .i64 (Lib.ctz 64 x)) ∧ w' = w := by
  obtain ⟨hlow, hk⟩ := Lib.lowest_bit 64 x hx0 hx
  obtain ⟨hi, htab⟩ := Lib.deBruijn64_at _ hk
  have hcell := hT.2.2 _ hi
  rw [htab] at hcell
  exact tz_core x _ _ w (by simp; omega) (tz64_key x _ hx hx0 hlow) hi hk hcell
theorem and_c (a c : Nat) (ha : a < 18446744073709551616) (hc : c < 18446744073709551616) (x y : Int) (hx : x = (a : Int)) (hy : y = (c : Int)) : bits .and .u64 x y = ((a &&& c : Nat) : Int) := by
  rw [hx, hy]; exact bits_and_u64_nat a c ha hc
theorem ocA_eq (x : Nat) (hx : x < 18446744073709551616) : IntKind.u64.wrap (bits BinOp.and IntKind.u64 ((x : Int) / 2) 6148914691236517205 + bits BinOp.and IntKind.u64 (x : Int) 6148914691236517205) = ((ocA x : Nat) : Int) ∧ ocA x ≤ 12297829382473034410 := by
  have h1 := and_c (x / 2) 6148914691236517205 (by omega) (by omega) ((x : Int) / 2) 6148914691236517205 (by omega) rfl
  have h2 := and_c x 6148914691236517205 (by omega) (by omega) (x : Int) 6148914691236517205 rfl rfl
  have l1 : x / 2 &&& 6148914691236517205 ≤ 6148914691236517205 := Nat.and_le_right
  have l2 : x &&& 6148914691236517205 ≤ 6148914691236517205 := Nat.and_le_right
  rw [h1, h2, IntKind.wrap_u64]
  unfold ocA
  generalize x / 2 &&& 6148914691236517205 = p at *
  generalize x &&& 6148914691236517205 = q at *
  omega
theorem ocB_eq (x : Nat) (hx : x < 18446744073709551616) : IntKind.u64.wrap (bits BinOp.and IntKind.u64 ((x : Int) / 4) 3689348814741910323 + bits BinOp.and IntKind.u64 (x : Int) 3689348814741910323) = ((ocB x : Nat) : Int) ∧ ocB x ≤ 7378697629483820646 := by
  have h1 := and_c (x / 4) 3689348814741910323 (by omega) (by omega) ((x : Int) / 4) 3689348814741910323 (by omega) rfl
  have h2 := and_c x 3689348814741910323 (by omega) (by omega) (x : Int) 3689348814741910323 rfl rfl
  have l1 : x / 4 &&& 3689348814741910323 ≤ 3689348814741910323 := Nat.and_le_right
  have l2 : x &&& 3689348814741910323 ≤ 3689348814741910323 := Nat.and_le_right
  rw [h1, h2, IntKind.wrap_u64]
  unfold ocB
  generalize x / 4 &&& 3689348814741910323 = p at *
  generalize x &&& 3689348814741910323 = q at *
  omega
theorem ocC_eq (x : Nat) (hx : x ≤ 7378697629483820646) : bits BinOp.and IntKind.u64 (IntKind.u64.wrap ((x : Int) / 16 + (x : Int))) 1085102592571150095 = ((ocC x : Nat) : Int) := by
  refine and_c (x / 16 + x) 1085102592571150095 (by omega) (by omega) _ _ ?_ rfl
  rw [IntKind.wrap_u64]
  omega
theorem sum_a (y : Nat) (h : y + y / 256 < 18446744073709551616) : IntKind.u64.wrap ((y : Int) + (y : Int) / 256) = ((y + y / 256 : Nat) : Int) := by
  rw [IntKind.wrap_u64]; omega
theorem sum_b (y : Nat) (h : y + y / 65536 < 18446744073709551616) : IntKind.u64.wrap ((y : Int) + (y : Int) / 65536) = ((y + y / 65536 : Nat) : Int) := by
  rw [IntKind.wrap_u64]; omega
theorem sum_c (y : Nat) (h : y + y / 4294967296 < 18446744073709551616) : IntKind.u64.wrap ((y : Int) + (y : Int) / 4294967296) = ((y + y / 4294967296 : Nat) : Int) := by
  rw [IntKind.wrap_u64]; omega
theorem low127 (v : Nat) : bits BinOp.and IntKind.i64 (wrap64 (v : Int)) 127 = ((v % 128 : Nat) : Int) := by
  rw [i64_and127]
  unfold wrap64
  omega
end Go.Proofs.YtcpignkjlnjjmaaDoor
