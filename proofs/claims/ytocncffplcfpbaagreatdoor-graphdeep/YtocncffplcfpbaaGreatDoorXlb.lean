/- rows of one's own: zeros appended -/
import Derived.Test.YtocncffplcfpbaaGreatDoorXla
namespace Go.Proofs.YtocncffplcfpbaaGreatDoor
open Go.RowKit
set_option linter.unusedVariables false
set_option linter.unusedSimpArgs false

section
variable {T E I : TypeId} {z : Value} {sz by_ : Nat}
theorem app_three' (A B C : Array Value) : A ++ (B ++ C) = A ++ B ++ C := by
  apply Array.ext'
  simp
theorem zer_grow (hT : Tryz.prog.underlying T = some (.slice E)) (hI : Tryz.prog.underlying I = some (.int .i64)) (hinf : (Tryz.prog.info? E).map (fun i => (i.zero, i.size, i.bytes)) = some (some z, sz, by_)) (hz : z.cells.size = sz) (hsz : 0 < sz) (hby : by_ ≤ 1000) (w : World) (ty : TypeId) (ta : Option Addr) (n cap m : Nat) (xs : List Value) (hlo : xs.length = n * sz) (hnone : ta = none → n = 0) (holds : ∀ b, ta = some b → ∀ (j : Nat) u, xs[j]? = some u → w.cell? (b.add j) = some u) (hg : cap < n + m) (hn : n ≤ 2000000) (hm0 : 0 < m) (hm : m ≤ 1000) :
    (Builtin.append_ #[T, I] ty #[.slice ta n cap, .int .i64 (m : Int)]).run Tryz.prog w =
      .ok (.slice (some ⟨w.heap.size, 0, none⟩) (n + m) (grownCap w (n + m) cap E))
        (w.drew.alloc (.cells (xs.toArray ++ Builtin.zeroCells z.cells m ++ Builtin.zeroCells z.cells (grownCap w (n + m) cap E - (n + m))) E)) := by
  obtain ⟨i0, hi, hz0, hz1, hz2⟩ := info_p hinf
  have hn' : ¬ (n + m ≤ cap) := by omega
  have h63' : ¬ (9223372036854775807 < ((n : Int) + (m : Int))) := by omega
  have h48' : ¬ (281474976710656 < Builtin.nextslicecap (n + m) cap * by_) := by
    have hb : (n + m) * by_ ≤ 2001000 * 1000 := Nat.mul_le_mul (by omega) hby
    have := growslice_fits (need := n + m) (old := cap) (bytes := by_) hg (by omega)
    omega
  have hlb : ¬ ((281474976710656 : Int) < (m : Int) * (by_ : Int)) := by
    have hb : m * by_ ≤ 1000 * 1000 := Nat.mul_le_mul hm hby
    have : ((m * by_ : Nat) : Int) ≤ 1000000 := by omega
    rw [Int.natCast_mul] at this
    omega
  have hw : IntKind.i64.wrap (m : Int) = m := by
    simp [IntKind.wrap, IntKind.signed, IntKind.bits]; omega
  have h00 : ¬ (m = 0) := by omega
  have hs0 : ¬ (sz = 0) := by omega
  have hneg : ¬ ((m : Int) < 0) := by omega
  have hfo : (Builtin.firstCells sz n (.slice ta n cap)).run Tryz.prog w.drew = .ok xs.toArray w.drew := by
    cases ta with
    | some b => exact run_firstCells_some (P := Tryz.prog) w.drew sz n b n cap xs hlo (by simpa using holds b rfl)
    | none =>
      obtain rfl := hnone rfl
      obtain rfl : xs = [] := List.eq_nil_of_length_eq_zero (by simpa using hlo)
      exact run_firstCells_none _ _ _ _ _
  simp [Builtin.append_, run_underlying hT, run_underlying hI, sizeOf, typeInfo, zeroValue, hi, hz0, hz1, hz2, asInt, asIntOf, hw, hneg, hlb, hn', h63', h48', Question.forced, hfo, newRow, grownCap]
  intro h0
  exfalso
  rcases Nat.mul_eq_zero.1 h0 with q | q <;> omega
theorem zer_room (hT : Tryz.prog.underlying T = some (.slice E)) (hI : Tryz.prog.underlying I = some (.int .i64)) (hinf : (Tryz.prog.info? E).map (fun i => (i.zero, i.size, i.bytes)) = some (some z, sz, by_)) (hz : z.cells.size = sz) (hsz : 0 < sz) (hby : by_ ≤ 1000) {m : Nat} (h1 : ∀ u ∈ (Builtin.zeroCells z.cells m).toList, u.oneCell' = true) (w : World) (ty : TypeId) (g n cap : Nat) (cur : Array Value) (hg : w.heap[g]? = some (.cells cur E (0, 0))) (hroom : n + m ≤ cap) (hfit : (n + m) * sz ≤ cur.size) (hm0 : 0 < m) (hm : m ≤ 1000) :
    (Builtin.append_ #[T, I] ty #[.slice (some ⟨g, 0, none⟩) n cap, .int .i64 (m : Int)]).run Tryz.prog w =
      .ok (.slice (some ⟨g, 0, none⟩) (n + m) cap) (w.setRow g (cur.toList.take (n * sz) ++ (Builtin.zeroCells z.cells m).toList ++ cur.toList.drop (n * sz + (Builtin.zeroCells z.cells m).toList.length)).toArray) := by
  obtain ⟨i0, hi, hz0, hz1, hz2⟩ := info_p hinf
  have hlb : ¬ ((281474976710656 : Int) < (m : Int) * (by_ : Int)) := by
    have hb : m * by_ ≤ 1000 * 1000 := Nat.mul_le_mul hm hby
    have : ((m * by_ : Nat) : Int) ≤ 1000000 := by omega
    rw [Int.natCast_mul] at this
    omega
  have hw : IntKind.i64.wrap (m : Int) = m := by
    simp [IntKind.wrap, IntKind.signed, IntKind.bits]; omega
  have h00 : ¬ (m = 0) := by omega
  have hs0 : ¬ (sz = 0) := by omega
  have hneg : ¬ ((m : Int) < 0) := by omega
  have hst := run_storeCells_at Tryz.prog g (n * sz) E (Builtin.zeroCells z.cells m).toList 0 cur w hg (by
    simp only [Array.length_toList, size_zeroCells, hz, Nat.add_zero]
    have := Nat.add_mul n m sz
    omega) h1
  simp only [Nat.add_zero] at hst
  simp [Builtin.append_, run_underlying hT, run_underlying hI, sizeOf, typeInfo, zeroValue, hi, hz0, hz1, hz2, asInt, asIntOf, hw, hneg, hlb, hroom, Addr.add_lit]
  simp at hst
  rw [hst, if_neg (fun h0 => by rcases Nat.mul_eq_zero.1 h0 with q | q <;> omega)]
  rfl
theorem zer_keep (hT : Tryz.prog.underlying T = some (.slice E)) (hI : Tryz.prog.underlying I = some (.int .i64)) (hinf : (Tryz.prog.info? E).map (fun i => (i.zero, i.size, i.bytes)) = some (some z, sz, by_)) (hz : z.cells.size = sz) (hsz : 0 < sz) (hby : by_ ≤ 1000) {m : Nat} (h1 : ∀ u ∈ (Builtin.zeroCells z.cells m).toList, u.oneCell' = true) {w : World} {base K cap : Nat} {ta : Option Addr} {xs : List Value} (hown : w.ownsRow base E sz (.slice ta K cap) K xs) (hbase : base ≤ w.heap.size) (hK : K ≤ 2000000) (hm : 0 < m) (hm2 : m ≤ 1000) (ty : TypeId) :
    ∃ g cap' w', (Builtin.append_ #[T, I] ty #[.slice ta K cap, .int .i64 (m : Int)]).run Tryz.prog w = .ok (.slice (some ⟨g, 0, none⟩) (K + m) cap') w' ∧ w'.ownsRow base E sz (.slice (some ⟨g, 0, none⟩) (K + m) cap') (K + m) (xs ++ (Builtin.zeroCells z.cells m).toList) ∧ w'.ownsRow base E sz (.slice ta K cap) K xs ∧ Fx (fun k => (Value.slice ta K cap).ownBlock = some k) w w' ∧
      ((Value.slice ta K cap).ownBlock = some g ∨ w.heap.size ≤ g) := by
  have hzl : (Builtin.zeroCells z.cells m).toList.length = m * sz := by simp only [Array.length_toList, size_zeroCells, hz]
  have hlen : (xs ++ (Builtin.zeroCells z.cells m).toList).length = (K + m) * sz := by rw [List.length_append, hown.1, hzl, Nat.add_mul]
  have grown : ∀ (hnone : ta = none → K = 0) (holds : ∀ b, ta = some b → ∀ (j : Nat) u, xs[j]? = some u → w.cell? (b.add j) = some u) (hg : cap < K + m), ∃ g cap' w', (Builtin.append_ #[T, I] ty #[.slice ta K cap, .int .i64 (m : Int)]).run Tryz.prog w = .ok (.slice (some ⟨g, 0, none⟩) (K + m) cap') w' ∧ w'.ownsRow base E sz (.slice (some ⟨g, 0, none⟩) (K + m) cap') (K + m) (xs ++ (Builtin.zeroCells z.cells m).toList) ∧ w'.ownsRow base E sz (.slice ta K cap) K xs ∧ Fx (fun k => (Value.slice ta K cap).ownBlock = some k) w w' ∧ ((Value.slice ta K cap).ownBlock = some g ∨ w.heap.size ≤ g) := by
    intro hnone holds hg
    have hr := zer_grow hT hI hinf hz hsz hby w ty ta K cap m xs hown.1 hnone holds hg hK hm hm2
    have hgr : w.grownBy (w.drew.alloc (.cells (xs.toArray ++ Builtin.zeroCells z.cells m ++ Builtin.zeroCells z.cells (grownCap w (K + m) cap E - (K + m))) E)) none := ⟨rfl, rfl, rfl, by simp, fun k hk _ => heap_alloc_old w.drew _ hk⟩
    refine ⟨_, _, _, hr, ⟨hlen, .inr ⟨w.heap.size, _, _, rfl, hbase, heap_alloc_new w.drew _, grownCap_ge w (K + m) cap E, grownCap_le_maxLen w (K + m) cap E (by unfold maxLen; omega), ?_, ?_⟩⟩, own_fx (S := fun _ => False) hown (fx_grown hgr) (fun _ _ q => q), fx_grown hgr, .inr (Nat.le_refl _)⟩
    · have := grownCap_ge w (K + m) cap E
      simp only [Array.size_append, List.size_toArray, size_zeroCells, hz, hown.1, ← Nat.add_mul]
      rw [show K + m + (grownCap w (K + m) cap E - (K + m)) = grownCap w (K + m) cap E by omega]
    · simp only [Array.toList_append]
      rw [← hlen]
      exact List.take_left
  rcases hown.2 with ⟨h0, h00⟩ | ⟨g, cap2, cur, h0, hg1, hg2, hg3, hg4, hg5, hg6⟩
  · cases h0
    exact grown (fun _ => h00) (fun b hb => by cases hb) (by omega)
  · cases h0
    by_cases hr : K + m ≤ cap
    · have hrun := zer_room hT hI hinf hz hsz hby h1 w ty g K cap cur hg2 hr (by rw [hg5]; exact Nat.mul_le_mul_right _ hr) hm hm2
      have hkm : (K + m) * sz ≤ cap * sz := Nat.mul_le_mul_right _ hr
      rw [Nat.add_mul] at hkm
      have h5 : w.grownBy (w.setRow g (cur.toList.take (K * sz) ++ (Builtin.zeroCells z.cells m).toList ++ cur.toList.drop (K * sz + (Builtin.zeroCells z.cells m).toList.length)).toArray) (some g) := ⟨rfl, rfl, rfl, by simp, fun k _ hk => setRow_other w g k _ (fun e => hk (by simp [e]))⟩
      have h6 : (w.setRow g (cur.toList.take (K * sz) ++ (Builtin.zeroCells z.cells m).toList ++ cur.toList.drop (K * sz + (Builtin.zeroCells z.cells m).toList.length)).toArray).ownsRow base E sz (.slice (some ⟨g, 0, none⟩) (K + m) cap) (K + m) (xs ++ (Builtin.zeroCells z.cells m).toList) := by
        refine ⟨hlen, .inr ⟨g, cap, _, rfl, hg1, setRow_heap w g cur _ E _ hg2, hr, hg4, ?_, ?_⟩⟩
        · simp only [List.size_toArray, List.length_append, List.length_take, List.length_drop, Array.length_toList, size_zeroCells, hz]
          omega
        · rw [hg6, ← hlen]
          exact List.take_left
      exact ⟨g, cap, _, hrun, h6, own_part h6 hown.1, ⟨h5.os, h5.tape, h5.output, h5.size, fun k h1 h2 => h5.block k h1 (fun e => h2 e.symm)⟩, .inl rfl⟩
    · exact grown (fun e => by cases e) (fun b hb => by cases hb; exact hown.cells (g := g) rfl) (by omega)
end
end Go.Proofs.YtocncffplcfpbaaGreatDoor
