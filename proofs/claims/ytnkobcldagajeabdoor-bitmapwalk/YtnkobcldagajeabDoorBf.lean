/- ranges -/
import Derived.Test.YtnkobcldagajeabDoorBc
namespace Go.Proofs.YtnkobcldagajeabDoor
open Go.RowKit
set_option linter.unusedVariables false
set_option linter.unusedSimpArgs false

/-- block g is one cell that holds v -/
def Box (w : World) (g : Nat) (T : TypeId) (v : Value) : Prop := w.heap[g]? = some (.cells #[v] T (0, 0))
theorem Box.cell {w : World} {g : Nat} {T : TypeId} {v : Value} (h : Box w g T v) : w.cell? ⟨g, 0, none⟩ = some v := by
  unfold Box at h; simp [World.cell?, h]
theorem Box.frozen {w : World} {g : Nat} {T : TypeId} {v : Value} (h : Box w g T v) : w.frozen? ⟨g, 0, none⟩ = false := by
  unfold Box at h; simp [World.frozen?, h]
theorem Box.lt {w : World} {g : Nat} {T : TypeId} {v : Value} (h : Box w g T v) : g < w.heap.size := heap_lt h
theorem Box.kept {w w' : World} {g lo hi : Nat} {T : TypeId} {v : Value} (h : Box w g T v) (o : Out lo hi w w') (h2 : g < lo ∨ hi ≤ g) : Box w' g T v := o.heap h h2
theorem Box.new (w : World) (T : TypeId) (v : Value) : Box (w.alloc (.cells #[v] T)) w.heap.size T v := heap_alloc_new _ _
theorem Box.alloc {w : World} {g : Nat} {T : TypeId} {v : Value} (h : Box w g T v) (o : Obj) : Box (w.alloc o) g T v := by
  unfold Box; rw [heap_alloc_old _ _ h.lt]; exact h
theorem Box.set {w : World} {g : Nat} {T : TypeId} {v : Value} (h : Box w g T v) (u : Value) : Box (w.setCell ⟨g, 0, none⟩ u) g T u := by
  unfold Box at *
  simp only [World.setCell, Array.getElem?_modify, if_true, h]
  rfl
theorem Box.setOther {w : World} {g : Nat} {T : TypeId} {v : Value} (h : Box w g T v) {p : Addr} (hp : g ≠ p.block) (u : Value) : Box (w.setCell p u) g T v := by
  unfold Box at *
  rw [Below.heap_setCell _ _ _ _ hp]; exact h

set_option maxHeartbeats 1000000 in
theorem setPiece {w : World} {lo hi b n g : Nat} {S : Nat → Bool} (h : MapAt w lo hi b n S) (hb' : Box w g 24 (.pointer (some ⟨b, 0, none⟩))) (hn : 0 < n) (s : Nat) (hs : s < nw n) (x : Nat) (hx : x < 18446744073709551616)
    (S' : Nat → Bool) (hv : pk S s ||| x = pk S' s) (ho : ∀ i, i ≠ s → pk S i = pk S' i) (hS : ∀ j, n ≤ j → S' j = false) :
    Calls Tryd.prog 28 #[.int .i64 s, .int .u64 x, .pointer (some ⟨g, 0, none⟩)] w fun e w' => e = .returned (.tuple #[]) ∧ MapAt w' lo hi b n S' ∧ Out lo hi w w' := by
  obtain ⟨bw, cap, hb, hcap, l1, l2, l3, hr⟩ := h.words
  have c0 := hb'.cell
  have c1 : w.cell? ⟨b, 1, none⟩ = some (.slice (some ⟨bw, 0, none⟩) (nw n) cap) := by simp [World.cell?, hb]
  have c2 := hr.cell hs
  have c3 := hr.frozen s
  have HF := hid_mk (h.store (S' := S') hb hr l1 l2 l3 s (bits .or .u64 (pk S s) x) (by rw [bits_or_u64_nat _ _ (pk_lt _ _) hx, hv]) (fun j _ hj => ho j hj) hS)
  have i1 : (0 : Int) ≤ (s : Int) := by omega
  have i2 : (s : Int) < (nw n : Int) := by omega
  have HO := hid_mk l1
  have HP := hid_mk l2
  clear h hb' hb hr l3 hcap l1 l2 hv ho hS
  go_enter Tryd.func28, Tryd.ntmps28
  go_wp2
  exact bodyPost_end (results_none Tryd.results28 _ _ _) rfl ⟨rfl, HF.out, (Out.refl _ _ _).setCell (.inl ⟨HO.out, HP.out⟩) _⟩
set_option maxHeartbeats 1000000 in
theorem clearPiece {w : World} {lo hi b n g : Nat} {S : Nat → Bool} (h : MapAt w lo hi b n S) (hb' : Box w g 24 (.pointer (some ⟨b, 0, none⟩))) (hn : 0 < n) (s : Nat) (hs : s < nw n) (x : Nat) (hx : x < 18446744073709551616)
    (S' : Nat → Bool) (hv : pk S s &&& (18446744073709551615 - x) = pk S' s) (ho : ∀ i, i ≠ s → pk S i = pk S' i) (hS : ∀ j, n ≤ j → S' j = false) :
    Calls Tryd.prog 29 #[.int .i64 s, .int .u64 x, .pointer (some ⟨g, 0, none⟩)] w fun e w' => e = .returned (.tuple #[]) ∧ MapAt w' lo hi b n S' ∧ Out lo hi w w' := by
  obtain ⟨bw, cap, hb, hcap, l1, l2, l3, hr⟩ := h.words
  have c0 := hb'.cell
  have c1 : w.cell? ⟨b, 1, none⟩ = some (.slice (some ⟨bw, 0, none⟩) (nw n) cap) := by simp [World.cell?, hb]
  have c2 := hr.cell hs
  have c3 := hr.frozen s
  have HF := hid_mk (h.store (S' := S') hb hr l1 l2 l3 s (bits .andNot .u64 (pk S s) x) (by rw [bits_andNot_u64_nat _ _ (pk_lt _ _) hx, hv]) (fun j _ hj => ho j hj) hS)
  have i1 : (0 : Int) ≤ (s : Int) := by omega
  have i2 : (s : Int) < (nw n : Int) := by omega
  have HO := hid_mk l1
  have HP := hid_mk l2
  clear h hb' hb hr l3 hcap l1 l2 hv ho hS
  go_enter Tryd.func29, Tryd.ntmps29
  go_wp2
  exact bodyPost_end (results_none Tryd.results29 _ _ _) rfl ⟨rfl, HF.out, (Out.refl _ _ _).setCell (.inl ⟨HO.out, HP.out⟩) _⟩
set_option maxHeartbeats 1000000 in
theorem countPiece {w : World} {lo hi b n g c : Nat} {S : Nat → Bool} {v : Int} (h : MapAt w lo hi b n S) (hb' : Box w g 24 (.pointer (some ⟨b, 0, none⟩))) (hc : Box w c 3 (.int .i64 v)) (v1 : 0 ≤ v) (v2 : v < 1000000) (hn : 0 < n) (s : Nat) (hs : s < nw n) (x : Nat) (hx : x < 18446744073709551616) :
    Calls Tryd.prog 25 #[.int .i64 s, .int .u64 x, .pointer (some ⟨c, 0, none⟩), .pointer (some ⟨g, 0, none⟩)] w fun e w' => e = .returned (.tuple #[]) ∧ Box w' c 3 (.int .i64 (v + pop (pk S s &&& x))) ∧ Out c (c + 1) w w' := by
  obtain ⟨bw, cap, hb, hcap, l1, l2, l3, hr⟩ := h.words
  have c0 := hb'.cell
  have c1 : w.cell? ⟨b, 1, none⟩ = some (.slice (some ⟨bw, 0, none⟩) (nw n) cap) := by simp [World.cell?, hb]
  have c2 := hr.cell hs
  have c3 := hc.cell
  have c4 := hc.frozen
  have HA := hid_mk (bits_and_u64_nat (pk S s) x (pk_lt _ _) hx)
  have hl : pk S s &&& x < 18446744073709551616 := Nat.lt_of_le_of_lt Nat.and_le_left (pk_lt _ _)
  have HC := hid_mk (fun w => ones_any (pk S s &&& x) hl w)
  have hp : ((pop (pk S s &&& x) : Nat) : Int) ≤ 64 := by have := pop_le (pk S s &&& x); omega
  have HB := hid_mk hc
  have hw : IntKind.i64.wrap (v + ↑(pop (pk S s &&& x))) = v + ↑(pop (pk S s &&& x)) := by simp [IntKind.wrap, IntKind.signed, IntKind.bits]; omega
  have i1 : (0 : Int) ≤ (s : Int) := by omega
  have i2 : (s : Int) < (nw n : Int) := by omega
  clear h hb' hb hr l3 hcap l1 l2 hc hl
  go_enter Tryd.func25, Tryd.ntmps25
  go_wp2_with fail
  go_region_with (go_at_call 26; rw [HA.out]; refine calls_same (HC.out _) ?_)
  all_goals (try go_wp2)
  all_goals exact bodyPost_end (results_none Tryd.results25 _ _ _) rfl ⟨rfl, HB.out.set _, ((Out.refl _ _ _).setCell (.inl ⟨Nat.le_refl _, Nat.lt_succ_self _⟩) _).drew⟩
theorem shl_up (L : Nat) (h : L ≤ 64) : IntKind.u64.wrap (18446744073709551615 * 2 ^ min L 64) = ((up L : Nat) : Int) := by
  rw [show min L 64 = L from by omega, IntKind.wrap_u64]
  unfold up
  have hp := Nat.two_pow_pos L
  have e : ((2 ^ L : Nat) : Int) = (2 : Int) ^ L := by simp
  by_cases h6 : L < 64
  · rw [if_pos h6, ← e]
    have hl : 2 ^ L < 2 ^ 64 := Nat.pow_lt_pow_right (a := 2) (by omega) h6
    rw [show (2 : Nat) ^ 64 = 18446744073709551616 from rfl] at hl
    generalize 2 ^ L = p at *
    omega
  · rw [if_neg h6]
    obtain rfl : L = 64 := by omega
    rfl
theorem shl_64 : IntKind.u64.wrap 340282366920938463444927863358058659840 = ((up 64 : Nat) : Int) := by rw [IntKind.wrap_u64]; rfl
theorem shl_0 : IntKind.u64.wrap 18446744073709551615 = ((up 0 : Nat) : Int) := by rw [IntKind.wrap_u64]; rfl
theorem andNot_up (L H : Nat) : bits .andNot .u64 ((up L : Nat) : Int) ((up H : Nat) : Int) = ((msk L H : Nat) : Int) := by
  rw [bits_andNot_u64_nat _ _ (up_lt _) (up_lt _), up_msk]
theorem shl_up2 (L : Nat) (h : L ≤ 64) : IntKind.u64.wrap (18446744073709551615 * 2 ^ L) = ((up L : Nat) : Int) := by
  have := shl_up L h
  rwa [show min L 64 = L from by omega] at this
end Go.Proofs.YtnkobcldagajeabDoor
