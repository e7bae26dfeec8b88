/- leaves -/
import Derived.Test.YtnkobcldagajeabDoorBa
import Derived.Shelf.Spec.TrailingZeros
import Derived.Laws.Bits128
namespace Go.Proofs.YtnkobcldagajeabDoor
open Go.RowKit
set_option linter.unusedVariables false
set_option linter.unusedSimpArgs false

theorem ret_bool {a b : Bool} (h : a = b) : Ending.returned (.bool a) = .returned (.bool b) := by rw [h]
theorem len_any {w : World} {lo hi b n : Nat} {S : Nat → Bool} (h : MapAt w lo hi b n S) :
    Calls Tryd.prog 23 #[.pointer (some ⟨b, 0, none⟩)] w fun e w' => e = .returned (.int .i64 n) ∧ w' = w := by
  have c0 := h.len
  go_enter Tryd.func23, Tryd.ntmps23
  go_wp2
  go_ret
  exact ⟨rfl, rfl⟩
def inB (n : Nat) (i : Int) : Bool := decide (0 ≤ i) && decide (i < n)
theorem has_any {w : World} {lo hi b n : Nat} {S : Nat → Bool} (h : MapAt w lo hi b n S) (i : Int) :
    Calls Tryd.prog 31 #[.pointer (some ⟨b, 0, none⟩), .int .i64 i] w fun e w' => e = .returned (.bool (inB n i)) ∧ w' = w := by
  have H := hid_mk (len_any h)
  by_cases h0 : 0 ≤ i
  · by_cases h1 : i < n
    · have e : inB n i = true := by simp [inB, h0, h1]
      rw [e]
      go_enter Tryd.func31, Tryd.ntmps31
      go_wp2_with (go_at_call 23; refine calls_same H.out ?_)
      all_goals go_ret
      all_goals exact ⟨rfl, rfl⟩
    · have e : inB n i = false := by simp [inB, h1]
      rw [e]
      go_enter Tryd.func31, Tryd.ntmps31
      go_wp2_with (go_at_call 23; refine calls_same H.out ?_)
      all_goals go_ret
      all_goals exact ⟨ret_bool (by simp; omega), rfl⟩
  · have e : inB n i = false := by simp [inB, h0]
    rw [e]
    go_enter Tryd.func31, Tryd.ntmps31
    go_wp2_with (go_at_call 23; refine calls_same H.out ?_)
    all_goals go_ret
    all_goals exact ⟨rfl, rfl⟩
def inR (n : Nat) (a b : Int) : Bool := decide (0 ≤ a) && (decide (a ≤ b) && decide (b ≤ n))
theorem hasRange_any {w : World} {lo hi m n : Nat} {S : Nat → Bool} (h : MapAt w lo hi m n S) (a b : Int) :
    Calls Tryd.prog 27 #[.pointer (some ⟨m, 0, none⟩), .int .i64 a, .int .i64 b] w fun e w' => e = .returned (.bool (inR n a b)) ∧ w' = w := by
  have H := hid_mk (len_any h)
  by_cases h0 : 0 ≤ a
  · by_cases h1 : a ≤ b
    · by_cases h2 : b ≤ n
      · have e : inR n a b = true := by simp [inR, h0, h1, h2]
        rw [e]
        go_enter Tryd.func27, Tryd.ntmps27
        go_wp2_with (go_at_call 23; refine calls_same H.out ?_)
        all_goals go_ret
        all_goals exact ⟨rfl, rfl⟩
      · have e : inR n a b = false := by simp [inR, h2]
        rw [e]
        go_enter Tryd.func27, Tryd.ntmps27
        go_wp2_with (go_at_call 23; refine calls_same H.out ?_)
        all_goals go_ret
        all_goals exact ⟨ret_bool (by simp; omega), rfl⟩
    · have e : inR n a b = false := by simp [inR, h1]
      rw [e]
      go_enter Tryd.func27, Tryd.ntmps27
      go_wp2_with (go_at_call 23; refine calls_same H.out ?_)
      all_goals go_ret
      all_goals exact ⟨rfl, rfl⟩
  · have e : inR n a b = false := by simp [inR, h0]
    rw [e]
    go_enter Tryd.func27, Tryd.ntmps27
    go_wp2_with (go_at_call 23; refine calls_same H.out ?_)
    all_goals go_ret
    all_goals exact ⟨rfl, rfl⟩
/-- the bit of i in its word -/
def bitN (i : Nat) : Nat := 2 ^ (i % 64)
theorem bitN_lt (i : Nat) : bitN i < 18446744073709551616 := Nat.pow_lt_pow_right (a := 2) (by omega) (show i % 64 < 64 by omega)
theorem bitN_pos (i : Nat) : 0 < bitN i := Nat.two_pow_pos _
set_option maxHeartbeats 400000 in
theorem bit_any (i : Nat) (w : World) (hi : i < 1000000) :
    Calls Tryd.prog 32 #[.int .i64 i] w fun e w' => e = .returned (.int .u64 (bitN i)) ∧ w' = w := by
  have h0 : (0 : Int) ≤ (i : Int) := by omega
  have h1 : (i : Int) < 1000000 := by omega
  go_enter Tryd.func32, Tryd.ntmps32
  go_wp2
  go_ret
  refine ⟨ret_int ?_, rfl⟩
  rw [IntKind.wrap_u64]
  have h2 := bitN_lt i
  have h3 : ((bitN i : Nat) : Int) = 2 ^ (i % 64) := by unfold bitN; simp
  show (2 : Int) ^ (i % 64) % 18446744073709551616 = _
  rw [← h3]
  omega
set_option maxHeartbeats 1000000 in
theorem tz_core (x k idx : Nat) (w : World) (hx0 : ((x : Int) == 0) = false)
    (key : IntKind.u64.wrap (bits BinOp.and IntKind.u64 (x : Int) (IntKind.u64.wrap (-(x : Int))) * 285870213051353865) / 288230376151711744 = (idx : Int))
    (hi : idx < 64) (hk : k < 64) (hcell : w.cell? ⟨0, idx, none⟩ = some (.int .u8 k)) :
    Calls Tryd.prog 35 #[.int .u64 x] w fun e w' => e = .returned (.int .i64 k) ∧ w' = w := by
  go_enter Tryd.func35, Tryd.ntmps35
  go_wp2_with (simp only [key])
  go_ret
  exact ⟨rfl, rfl⟩
theorem tz_any (x : Nat) (hx : x < 18446744073709551616) (hx0 : x ≠ 0) {w : World} (hT : Tab w) :
    Calls Tryd.prog 35 #[.int .u64 x] w fun e w' => e = .returned (.int .i64 (Lib.ctz 64 x)) ∧ w' = w := by
  obtain ⟨hlow, hk⟩ := Lib.lowest_bit 64 x hx0 hx
  obtain ⟨hi, htab⟩ := Lib.deBruijn64_at _ hk
  have hcell := hT _ hi
  rw [htab] at hcell
  exact tz_core x _ _ w (by simp; omega) (tz64_key x _ hx hx0 hlow) hi hk hcell
theorem and_c (a c : Nat) (ha : a < 18446744073709551616) (hc : c < 18446744073709551616) (x y : Int) (hx : x = (a : Int)) (hy : y = (c : Int)) : bits .and .u64 x y = ((a &&& c : Nat) : Int) := by
  rw [hx, hy]; exact bits_and_u64_nat a c ha hc
theorem ocA_eq (x : Nat) (hx : x < 18446744073709551616) : IntKind.u64.wrap (bits BinOp.and IntKind.u64 ((x : Int) / 2) 6148914691236517205 + bits BinOp.and IntKind.u64 (x : Int) 6148914691236517205) = ((ocA x : Nat) : Int) ∧ ocA x ≤ 12297829382473034410 := by
  have h1 := and_c (x / 2) 6148914691236517205 (by omega) (by omega) ((x : Int) / 2) 6148914691236517205 (by omega) rfl
  have h2 := and_c x 6148914691236517205 (by omega) (by omega) (x : Int) 6148914691236517205 rfl rfl
  have l1 : x / 2 &&& 6148914691236517205 ≤ 6148914691236517205 := Nat.and_le_right
  have l2 : x &&& 6148914691236517205 ≤ 6148914691236517205 := Nat.and_le_right
  rw [h1, h2, IntKind.wrap_u64]
  unfold ocA
  generalize x / 2 &&& 6148914691236517205 = p at *
  generalize x &&& 6148914691236517205 = q at *
  omega
theorem ocB_eq (x : Nat) (hx : x < 18446744073709551616) : IntKind.u64.wrap (bits BinOp.and IntKind.u64 ((x : Int) / 4) 3689348814741910323 + bits BinOp.and IntKind.u64 (x : Int) 3689348814741910323) = ((ocB x : Nat) : Int) ∧ ocB x ≤ 7378697629483820646 := by
  have h1 := and_c (x / 4) 3689348814741910323 (by omega) (by omega) ((x : Int) / 4) 3689348814741910323 (by omega) rfl
  have h2 := and_c x 3689348814741910323 (by omega) (by omega) (x : Int) 3689348814741910323 rfl rfl
  have l1 : x / 4 &&& 3689348814741910323 ≤ 3689348814741910323 := Nat.and_le_right
  have l2 : x &&& 3689348814741910323 ≤ 3689348814741910323 := Nat.and_le_right
  rw [h1, h2, IntKind.wrap_u64]
  unfold ocB
  generalize x / 4 &&& 3689348814741910323 = p at *
  generalize x &&& 3689348814741910323 = q at *
  omega
theorem ocC_eq (x : Nat) (hx : x ≤ 7378697629483820646) : bits BinOp.and IntKind.u64 (IntKind.u64.wrap ((x : Int) / 16 + (x : Int))) 1085102592571150095 = ((ocC x : Nat) : Int) := by
  refine and_c (x / 16 + x) 1085102592571150095 (by omega) (by omega) _ _ ?_ rfl
  rw [IntKind.wrap_u64]
  omega
theorem sum_a (y : Nat) (h : y + y / 256 < 18446744073709551616) : IntKind.u64.wrap ((y : Int) + (y : Int) / 256) = ((y + y / 256 : Nat) : Int) := by
  rw [IntKind.wrap_u64]; omega
theorem sum_b (y : Nat) (h : y + y / 65536 < 18446744073709551616) : IntKind.u64.wrap ((y : Int) + (y : Int) / 65536) = ((y + y / 65536 : Nat) : Int) := by
  rw [IntKind.wrap_u64]; omega
theorem sum_c (y : Nat) (h : y + y / 4294967296 < 18446744073709551616) : IntKind.u64.wrap ((y : Int) + (y : Int) / 4294967296) = ((y + y / 4294967296 : Nat) : Int) := by
  rw [IntKind.wrap_u64]; omega
theorem low127 (v : Nat) : bits BinOp.and IntKind.i64 (wrap64 (v : Int)) 127 = ((v % 128 : Nat) : Int) := by
  rw [i64_and127]
  unfold wrap64
  omega
set_option maxHeartbeats 1000000 in
theorem ones_any (x : Nat) (hx : x < 18446744073709551616) (w : World) :
    Calls Tryd.prog 26 #[.int .u64 x] w fun e w' => e = .returned (.int .i64 (pop x)) ∧ w' = w := by
  obtain ⟨y, hy, y1, y2, y3, y4⟩ := oc_pop x
  have HY := hid_mk hy
  have H1 := hid_mk y1
  have H2 := hid_mk y2
  have H3 := hid_mk y3
  have H4 := hid_mk y4
  clear hy y1 y2 y3 y4
  have hx' : (x : Int) < 18446744073709551616 := by omega
  have hx0 : (0 : Int) ≤ (x : Int) := by omega
  go_enter Tryd.func26, Tryd.ntmps26
  go_wp2
  go_ret
  refine ⟨ret_int ?_, rfl⟩
  obtain ⟨a1, a2⟩ := ocA_eq x hx
  rw [a1]
  obtain ⟨b1, b2⟩ := ocB_eq (ocA x) (by omega)
  rw [b1, ocC_eq _ b2, HY.out]
  rw [sum_a y H1.out, sum_b _ H2.out, sum_c _ H3.out, low127, H4.out]
end Go.Proofs.YtnkobcldagajeabDoor
