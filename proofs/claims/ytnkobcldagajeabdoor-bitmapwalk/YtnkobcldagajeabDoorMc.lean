/- BitmapWalk: those that are in, rising; the closure; an All gone over -/
import Derived.Test.YtnkobcldagajeabDoorMb
namespace Go.Proofs.YtnkobcldagajeabDoor
open Go.RowKit
set_option linter.unusedVariables false
set_option linter.unusedSimpArgs false

/-- those that are in from p on below n, rising -/
def lst (S : Nat → Bool) (n p : Nat) : List Nat := if p < n then (if S p then p :: lst S n (p + 1) else lst S n (p + 1)) else []
termination_by n - p
theorem lst_end {S : Nat → Bool} {n p : Nat} (h : n ≤ p) : lst S n p = [] := by rw [lst, if_neg (by omega)]
theorem lst_in {S : Nat → Bool} {n p : Nat} (h : p < n) (hs : S p = true) : lst S n p = p :: lst S n (p + 1) := by
  conv => lhs; rw [lst, if_pos h, if_pos hs]
theorem lst_out {S : Nat → Bool} {n p : Nat} (h : p < n) (hs : S p = false) : lst S n p = lst S n (p + 1) := by
  conv => lhs; rw [lst, if_pos h, hs]
  rfl
theorem lst_nx (S : Nat → Bool) (n p : Nat) : lst S n p = if nx S n p < n then nx S n p :: lst S n (nx S n p + 1) else [] := by
  by_cases h : p < n
  · cases hs : S p
    · have e : nx S n p = nx S n (p + 1) := by
        conv => lhs; rw [nx, if_pos h, hs]
        rfl
      rw [lst_out h hs, e]
      exact lst_nx S n (p + 1)
    · have e : nx S n p = p := by rw [nx, if_pos h, if_pos hs]
      rw [e, if_pos h, lst_in h hs]
  · rw [lst_end (by omega), nx_end _ _ _ (by omega), if_neg (by omega)]
termination_by n - p
theorem lst_length (S : Nat → Bool) (n p : Nat) (h : p ≤ n) : cnt S p + (lst S n p).length = cnt S n := by
  by_cases hp : p < n
  · have e : cnt S (p + 1) = cnt S p + if S p then 1 else 0 := rfl
    have ih := lst_length S n (p + 1) hp
    cases hs : S p
    · rw [lst_out hp hs]; rw [hs] at e; simp at e; omega
    · rw [lst_in hp hs]; rw [hs] at e; simp at e; simp; omega
  · obtain rfl : p = n := by omega
    rw [lst_end (Nat.le_refl _)]; rfl
termination_by n - p
theorem lst_cnt (S : Nat → Bool) (n : Nat) : (lst S n 0).length = cnt S n := by
  have := lst_length S n 0 (Nat.zero_le _)
  have e : cnt S 0 = 0 := rfl
  omega
/-- the next one as a number, or the end -/
theorem step_facts (S : Nat → Bool) (n p : Nat) (hp : p ≤ n) : (nxr S n p = -1 ∧ lst S n p = []) ∨ ∃ k : Nat, nxr S n p = k ∧ p ≤ k ∧ k < n ∧ S k = true ∧ lst S n p = k :: lst S n (k + 1) := by
  by_cases h : nx S n p < n
  · right
    exact ⟨nx S n p, by unfold nxr; rw [if_pos h], nx_ge _ _ _ hp, h, nx_in _ _ _ h, by rw [lst_nx, if_pos h]⟩
  · left
    exact ⟨by unfold nxr; rw [if_neg h], by rw [lst_nx, if_neg h]⟩
theorem info_int : (Tryd.prog.info? 3).map (fun i => (i.zero, i.size, i.bytes)) = some (some (.int .i64 0), 1, 8) := by kernel_rfl
def ints (l : List Nat) : List Value := l.map (fun (x : Nat) => Value.int .i64 (x : Int))
theorem own_kept {w w' : World} {v : Value} {base k lo hi : Nat} {xs : List Value} {T : TypeId} (h : w.ownsRow base T 1 v k xs) (o : Out lo hi w w') (hd : hi ≤ base) : w'.ownsRow base T 1 v k xs := by
  obtain ⟨hlen, hcase⟩ := h
  refine ⟨hlen, ?_⟩
  rcases hcase with ⟨hv, h0⟩ | ⟨g, cap', cur, rfl, hg1, hg2, hg3⟩
  · exact .inl ⟨hv, h0⟩
  · exact .inr ⟨g, cap', cur, rfl, hg1, o.heap hg2 (.inr (by omega)), hg3⟩
theorem own_out {w w' : World} {v : Value} {base k : Nat} {xs : List Value} {T : TypeId} (h : w.ownsRow base T 1 v k xs) (hg : w.grownBy w' v.ownBlock) : Out base w.heap.size w w' :=
  ⟨hg.os, hg.tape, hg.output, hg.size, fun j h1 h2 => hg.block j h1 (fun e => by have := (h.lt j e.symm).1; omega)⟩
/-- the slice, opened -/
theorem own_open {w : World} {v : Value} {base : Nat} {l : List Nat} (h : w.ownsRow base 3 1 v l.length (ints l)) :
    ∃ a cap, v = .slice a l.length cap ∧ (0 < l.length → ∃ g, a = some ⟨g, 0, none⟩ ∧ base ≤ g ∧ g < w.heap.size ∧ ∀ i (hi : i < l.length), w.cell? ⟨g, i, none⟩ = some (.int .i64 (l[i] : Nat))) := by
  obtain ⟨hlen, hcase⟩ := h
  rcases hcase with ⟨hv, h0⟩ | ⟨g, cap', cur, rfl, hg1, hg2, hg3, hg4, hg5, hg6⟩
  · exact ⟨none, 0, by rw [hv, h0], fun h => by omega⟩
  · refine ⟨_, _, rfl, fun _ => ⟨g, rfl, hg1, heap_lt hg2, fun i hi => ?_⟩⟩
    have e : (cur.toList.take (l.length * 1))[i]? = (ints l)[i]? := by rw [hg6]
    simp [ints, hi] at e
    simp [World.cell?, hg2, e]
set_option maxRecDepth 100000 in
set_option maxHeartbeats 1000000 in
theorem walk1_any {w : World} {a t nb g len cap j : Nat} {i : Int} (ha : Box w a 3 (.int .i64 j)) (ht : Box w t 22 (.slice (some ⟨g, 0, none⟩) len cap)) (hj : j < len) (hl : len ≤ 20000) (hc : w.cell? ⟨g, j, none⟩ = some (.int .i64 i)) :
    Calls Tryd.prog 17 #[.int .i64 i, .pointer (some ⟨a, 0, none⟩), .pointer (some ⟨t, 0, none⟩), .pointer (some ⟨nb, 0, none⟩)] w fun e w' => e = .returned (.bool true) ∧ Box w' a 3 (.int .i64 ((j + 1 : Nat) : Int)) ∧ Out a (a + 1) w w' := by
  have c0 := ha.cell
  have c1 := ha.frozen
  have c2 := ht.cell
  have HA := hid_mk ha
  have j1 : (0 : Int) ≤ (j : Int) := by omega
  have j2 : (j : Int) < (len : Int) := by omega
  have j3 : (j : Int) < 20000 := by omega
  have he : (i == i) = true := by simp
  have he2 : (i != i) = false := by simp
  clear ha ht hj hl
  go_enter Tryd.func17, Tryd.ntmps17
  go_wp2
  go_ret
  refine ⟨rfl, ?_, (Out.refl _ _ _).setCell (.inl ⟨Nat.le_refl _, Nat.lt_succ_self _⟩) _⟩
  have := HA.out.set (.int .i64 ((j : Int) + 1))
  rw [show ((j + 1 : Nat) : Int) = (j : Int) + 1 from by omega]
  exact this
end Go.Proofs.YtnkobcldagajeabDoor
