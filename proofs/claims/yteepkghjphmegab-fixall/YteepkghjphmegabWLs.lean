/- the walks of Ls -/
import Derived.Test.YteepkghjphmegabWPm
import Derived.Laws.OwnMore
import Derived.Deep.Onto
import Derived.BigQuiet
import Derived.Deep.QuietTactic
namespace Go.Proofs.Yteepkghjphmegab
open Go.ChangeShapes Go.WideShapes Go.ChangeAt Go.RowKit
set_option linter.unusedVariables false
set_option linter.unusedSimpArgs false

def rowL (N : Int) (len : Nat) : List Value := (List.range len).map fun i => Value.int .i64 (bit N i)
theorem rowL_length (N : Int) (len : Nat) : (rowL N len).length = len := by simp [rowL]
theorem rowL_get (N : Int) (len k : Nat) (h : k < len) : (rowL N len)[k]? = some (.int .i64 (bit N k)) := by simp [rowL, h]
theorem rowL_succ (N : Int) (len : Nat) : rowL N (len + 1) = rowL N len ++ [.int .i64 (bit N len)] := by simp [rowL, List.range_succ]

/-- v is a slice of len bits that are those of N -/
structure BL (W : World) (B : Nat) (v : Value) (N : Int) (len : Nat) : Prop where
  lo : 0 ≤ N
  hi : N < 2 ^ len
  some : ∃ g cap, v = .slice (some ⟨g, 0, none⟩) len cap
  own : W.ownsRow B 3 1 v len (rowL N len)

theorem BL.kept {W W' : World} {B : Nat} {v : Value} {N : Int} {len : Nat} (h : BL W B v N len) (hb : Below W.heap.size W W') : BL W' B v N len := by
  refine ⟨h.lo, h.hi, h.some, h.own.1, ?_⟩
  rcases h.own.2 with hn | ⟨g, cap, cur, e, hB, hg, r⟩
  · exact .inl hn
  · exact .inr ⟨g, cap, cur, e, hB, by rw [← hg]; exact hb.block g (Array.getElem?_eq_some_iff.1 hg).1, r⟩
theorem BL.mono {W : World} {B B' : Nat} {v : Value} {N : Int} {len : Nat} (h : BL W B v N len) (hb : B' ≤ B) : BL W B' v N len := ⟨h.lo, h.hi, h.some, h.own.mono hb⟩
theorem BL.drewN {W : World} {B : Nat} {v : Value} {N : Int} {len : Nat} (h : BL W B v N len) (n : Nat) : BL (W.drewN n) B v N len := ⟨h.lo, h.hi, h.some, h.own⟩

theorem refAt_any (W : World) (B : Nat) (v : Value) (N : Int) (len : Nat) (i : Int) (h : BL W B v N len) :
    Calls Try.prog 42 #[v, .int .i64 i] W fun e w' => e = .returned (.int .i64 (atV N i)) ∧ w' = W := by
  obtain ⟨g, cap, rfl⟩ := h.some
  by_cases h1 : i < 0
  · go_enter Try.func42, Try.ntmps42
    go_wp2
    go_ret
    exact ⟨ret_int (by unfold atV; rw [if_pos h1]), rfl⟩
  · obtain ⟨k, rfl⟩ : ∃ k : Nat, i = (k : Int) := ⟨i.toNat, by omega⟩
    by_cases h2 : k < len
    · have hc := h.own.cellAt k (by omega)
      rw [rowL_get N len k h2] at hc
      go_enter Try.func42, Try.ntmps42
      go_wp2
      go_ret
      exact ⟨ret_int (by unfold atV; rw [if_neg (by omega)]; simp), rfl⟩
    · go_enter Try.func42, Try.ntmps42
      go_wp2
      go_ret
      refine ⟨ret_int ?_, rfl⟩
      unfold atV; rw [if_neg (by omega)]
      have : N < 2 ^ k := Int.lt_of_lt_of_le h.hi (pow_le_pow (by omega))
      simp [bit_big N k h.lo this]

set_option maxHeartbeats 400000 in
theorem refTop_any (W : World) (B : Nat) (v : Value) (N : Int) (len : Nat) (hl : len ≤ 1000000) (h : BL W B v N len) :
    Calls Try.prog 40 #[v] W fun e w' => ∃ t, e = .returned (.int .i64 t) ∧ topV N t ∧ t < len ∧ w' = W := by
  obtain ⟨g, cap, rfl⟩ := h.some
  have hlo := h.lo
  go_enter Try.func40, Try.ntmps40
  go_wp2
  go_loop [3] (fun i => ∃ k : Nat, k ≤ len ∧ i = .int .i64 ((k : Int) - 1) ∧ N < 2 ^ k) (fun i => (intOf i + 1).toNat)
  case atStart => exact ⟨len, Nat.le_refl _, rfl, h.hi⟩
  case round =>
    obtain ⟨k, hk, rfl, hN⟩ := hrel
    have HN : Hid (N < 2 ^ k) := hN
    clear hN
    by_cases hpos : 1 ≤ k
    · obtain ⟨n, rfl⟩ : ∃ n, k = n + 1 := ⟨k - 1, by omega⟩
      have ei : ((n + 1 : Nat) : Int) - 1 = (n : Int) := by omega
      rw [ei]
      clear ei
      have hc := h.own.cellAt n (by omega)
      rw [rowL_get N len n (by omega)] at hc
      by_cases hb : bit N n = 0
      · have hb' : (bit N n == 0) = true := by simpa using hb
        have HB : Hid (bit N n = 0) := hb
        clear hb
        go_wp2
        go_round
        case rel => exact ⟨n, by omega, by go_num, top_step hlo HN.out HB.out⟩
        case measure => simp [intOf] <;> omega
      · have hb' : (bit N n == 0) = false := by simpa using hb
        have HB : Hid (bit N n ≠ 0) := hb
        clear hb
        go_wp2
        go_ret
        exact ⟨(n : Int), rfl, .inr ⟨by omega, by simpa using top_end hlo HB.out, by simpa using HN.out⟩, by omega, rfl⟩
    · have hk0 : Hid (k = 0) := by show k = 0; omega
      have hneg : ¬ (0 : Int) ≤ (k : Int) - 1 := by omega
      go_wp2
      go_ret
      obtain rfl := hk0.out
      have := HN.out
      exact ⟨-1, by simp, .inl ⟨by simp at this; omega, rfl⟩, by omega, rfl⟩
end Go.Proofs.Yteepkghjphmegab
