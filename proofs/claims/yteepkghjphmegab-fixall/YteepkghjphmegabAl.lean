/- a whole script -/
import Derived.Test.YteepkghjphmegabAk
import Derived.Deep.Strs
import Derived.Carry
namespace Go.Proofs.Yteepkghjphmegab
open Go.ChangeShapes Go.WideShapes Go.ChangeAt Go.RowKit
set_option linter.unusedVariables false
set_option linter.unusedSimpArgs false

def Asks (W : World) (b off len : Nat) (K A B : Nat → Int) : Prop := ∀ i, i < len → W.cell? ⟨b, off + i * 3, none⟩ = some (.int .i64 (K i)) ∧ W.cell? ⟨b, off + i * 3 + 1, none⟩ = some (.int .i64 (A i)) ∧ W.cell? ⟨b, off + i * 3 + 2, none⟩ = some (.int .i64 (B i)) ∧
  -9223372036854775808 ≤ A i ∧ A i ≤ 9223372036854775807 ∧ -9223372036854775808 ≤ B i ∧ B i ≤ 9223372036854775807
theorem cell_lt {W : World} {b off : Nat} {v : Value} (h : W.cell? ⟨b, off, none⟩ = some v) : b < W.heap.size := by
  by_cases hb : b < W.heap.size
  · exact hb
  · have : W.heap[b]? = none := by simp; omega
    simp [World.cell?, this] at h
theorem Asks.kept {W W' : World} {b off len : Nat} {K A B : Nat → Int} (h : Asks W b off len K A B) (hb : Below W.heap.size W W') : Asks W' b off len K A B := by
  intro i hi
  obtain ⟨c0, c1, c2, r⟩ := h i hi
  have hl := cell_lt c0
  refine ⟨?_, ?_, ?_, r⟩
  · rw [hb.cell (p := ⟨b, off + i * 3, none⟩) hl]; exact c0
  · rw [hb.cell (p := ⟨b, off + i * 3 + 1, none⟩) hl]; exact c1
  · rw [hb.cell (p := ⟨b, off + i * 3 + 2, none⟩) hl]; exact c2
set_option maxHeartbeats 2000000 in
theorem all_some (hs : Two 34) (hp : Two 35) (hl : Two 36) (ht : Two 3) (w : World) (b off len cap : Nat) (K A B : Nat → Int) (h : Asks w b off len K A B) (hlen : len ≤ 2000) (h0 : 0 < len) :
    Calls Try.prog 4 #[.slice (some ⟨b, off, none⟩) len cap] w fun e w' => e = .returned (.bool true) ∧ Below w.heap.size w w' := by
  have HA := hid_mk (asked_of hs hp hl ht)
  have H := hid_mk h
  clear hs hp hl ht h
  have hB := Below.refl w.heap.size w
  go_enter Try.func4, Try.ntmps4
  go_wp2_with (go_at_call 9; refine (calls_rel (alive_any _) (by assumption)).mono ?_; rintro e w1 ⟨rfl, hg⟩)
  go_loopw [3, 4] (fun ok i wr => ∃ k : Nat, k ≤ len ∧ i = .int .i64 k ∧ ok = .bool true ∧ Below w.heap.size w wr) (fun _ i _ => len - (intOf i).toNat)
  case atStart => exact ⟨0, by omega, by simp, rfl, hg⟩
  case round =>
    clear hg hB
    obtain ⟨k, hk, rfl, rfl, hB⟩ := hrel
    by_cases hkl : k < len
    · obtain ⟨c0, c1, c2, r1, r2, r3, r4⟩ := H.out.kept hB k hkl
      go_wp2_with fail
      refine (HA.out _ _ _ _ r1 r2 r3 r4).mono ?_
      rintro e w2 ⟨rfl, hb2⟩
      have hB2 := below_two hB hb2 hB.size
      clear hB hb2 c0 c1 c2 r1 r2 r3 r4
      obtain ⟨c0, c1, c2, r1, r2, r3, r4⟩ := H.out.kept hB2 0 h0
      rw [Nat.zero_mul, Nat.add_zero] at c0 c1 c2
      go_wp2_with fail
      refine (HA.out _ _ _ _ r1 r2 r3 r4).mono ?_
      rintro e w3 ⟨rfl, hb3⟩
      have hB3 := below_two hB2 hb3 hB2.size
      clear hB2 hb3 c0 c1 c2 r1 r2 r3 r4
      go_wp2
      go_roundw
      case rel => exact ⟨k + 1, by omega, by simp, rfl, hB3⟩
      case measure => simp [intOf]; omega
    · have : k = len := by omega
      subst this
      go_wp2
      go_ret
      exact ⟨rfl, hB⟩
set_option maxHeartbeats 2000000 in
theorem all_none (x : Option Addr) (cap : Nat) (w : World) :
    Calls Try.prog 4 #[.slice x 0 cap] w fun e w' => e = .returned (.bool true) ∧ Below w.heap.size w w' := by
  have hB := Below.refl w.heap.size w
  go_enter Try.func4, Try.ntmps4
  go_wp2_with (go_at_call 9; refine (calls_rel (alive_any _) (by assumption)).mono ?_; rintro e w1 ⟨rfl, hg⟩)
  go_loopw [3, 4] (fun ok i wr => i = .int .i64 0 ∧ ok = .bool true ∧ Below w.heap.size w wr) (fun _ _ _ => 0)
  case atStart => exact ⟨rfl, rfl, hg⟩
  case round =>
    clear hg hB
    obtain ⟨rfl, rfl, hB⟩ := hrel
    go_wp2
    go_ret
    exact ⟨rfl, hB⟩
theorem all_long (x : Option Addr) (len cap : Nat) (w : World) (h : 2000 < len) :
    Calls Try.prog 4 #[.slice x len cap] w fun e w' => e = .returned (.bool true) ∧ Below w.heap.size w w' := by
  have hB := Below.refl w.heap.size w
  go_enter Try.func4, Try.ntmps4
  go_wp2
  go_ret
  exact ⟨rfl, hB⟩
end Go.Proofs.Yteepkghjphmegab
