/- rows of one's own: appends of any length, and appends that leave the old slice as it was -/
import Derived.Test.YtocncffplcfpbaaGreatDoorUf
import Derived.ArgAppend
import Derived.Lib.SmallJoins
import Derived.Deep.DeepAppendRoom
namespace Go.Proofs.YtocncffplcfpbaaGreatDoor
open Go.RowKit
set_option linter.unusedVariables false
set_option linter.unusedSimpArgs false

theorem run_none2 {T E : TypeId} {z : Value} {sz by_ : Nat} (hT : Tryz.prog.underlying T = some (.slice E)) (hinf : (Tryz.prog.info? E).map (fun i => (i.zero, i.size, i.bytes)) = some (some z, sz, by_)) (w : World) (ty : TypeId) (ta p : Option Addr) (K cap c : Nat) (hle : K ≤ cap) : (Builtin.append_ #[T, T] ty #[.slice ta K cap, .slice p 0 c]).run Tryz.prog w = .ok (.slice ta K cap) w := by
  obtain ⟨i0, hi, hz0, hz1, hz2⟩ := info_p hinf
  cases p <;> cases ta <;> simp [Builtin.append_, run_underlying hT, sizeOf, typeInfo, hi, Builtin.lenOf, Builtin.firstCells, loadCells, loadCellsFrom, storeCells, hle]
theorem own_cap {w : World} {base K cap sz : Nat} {E : TypeId} {ta : Option Addr} {xs : List Value} (h : w.ownsRow base E sz (.slice ta K cap) K xs) : K ≤ cap := by
  rcases h.2 with ⟨h1, h2⟩ | ⟨g, c, cur, h1, _, _, h4, _⟩
  · omega
  · cases h1; exact h4
section
variable {T E : TypeId} {z : Value} {sz by_ : Nat}
/-- some things more in a row of one's own, none at all among them -/
theorem app_at (hT : Tryz.prog.underlying T = some (.slice E)) (hinf : (Tryz.prog.info? E).map (fun i => (i.zero, i.size, i.bytes)) = some (some z, sz, by_)) (hz : z.cells.size = sz) (hsz : 0 < sz) (hby : by_ ≤ 1000) {w : World} {base K cap m c : Nat} {ta sa : Option Addr} {xs ys : List Value} (hown : w.ownsRow base E sz (.slice ta K cap) K xs) (hbase : base ≤ w.heap.size) (hv : m = 0 ∨ ∃ vb off, sa = some ⟨vb, off, none⟩ ∧ ∀ (j : Nat) u, ys[j]? = some u → w.cell? ⟨vb, off + j, none⟩ = some u) (hl : ys.length = m * sz) (h1 : ∀ u ∈ ys, u.oneCell' = true) (hK : K ≤ 2000000) (hm2 : m ≤ 2000000) (ty : TypeId) :
    ∃ a' cap' w', (Builtin.append_ #[T, T] ty #[.slice ta K cap, .slice sa m c]).run Tryz.prog w = .ok (.slice a' (K + m) cap') w' ∧ w'.ownsRow base E sz (.slice a' (K + m) cap') (K + m) (xs ++ ys) ∧ Fx (fun k => (Value.slice ta K cap).ownBlock = some k) w w' ∧
      ((Value.slice a' (K + m) cap').ownBlock = (Value.slice ta K cap).ownBlock ∨ (Value.slice a' (K + m) cap').ownBlock = some w.heap.size) := by
  by_cases hm : m = 0
  · subst hm
    have : ys = [] := List.eq_nil_of_length_eq_zero (by omega)
    subst this
    exact ⟨ta, cap, w, run_none2 hT hinf w ty ta sa K cap c (own_cap hown), by rw [List.append_nil]; exact hown, Fx.refl _ _, .inl rfl⟩
  · rcases hv with h | ⟨vb, off, rfl, hv⟩
    · exact absurd h hm
    obtain ⟨i0, hi0, hz0, hz1, hz2⟩ := info_p hinf
    obtain ⟨g4, cap', w', hrun, hown', hgrow, hat, _⟩ := run_append_lies (P := Tryz.prog) w T ty base E i0 z sz by_ hT hi0 hz0 hz1 hz2 hz hsz (.slice ta K cap) K xs hown ⟨vb, off, none⟩ m c ys hl (by
        intro j u hj
        rw [Addr.add_lit]
        exact hv j u hj) h1 (by omega) (by unfold maxLen; omega) (by
        have : (K + m) * by_ ≤ 4000000 * 1000 := Nat.mul_le_mul (by omega) hby
        omega) hbase w.heap.size rfl
    refine ⟨some ⟨g4, 0, none⟩, cap', w', hrun, hown', ⟨hgrow.os, hgrow.tape, hgrow.output, hgrow.size, fun k h1 h2 => hgrow.block k h1 (fun e => h2 e.symm)⟩, ?_⟩
    rcases hat with h | h
    · exact .inl h.symm
    · exact .inr (by rw [h]; rfl)
theorem fx_grown {w w' : World} {S : Nat → Prop} (h : w.grownBy w' none) : Fx S w w' := ⟨h.os, h.tape, h.output, h.size, fun k h1 _ => h.block k h1 (by simp)⟩
/-- the slice of a longer row -/
theorem own_part {w : World} {base K m cap : Nat} {g : Nat} {xs ys : List Value} (h : w.ownsRow base E sz (.slice (some ⟨g, 0, none⟩) (K + m) cap) (K + m) (xs ++ ys)) (hx : xs.length = K * sz) : w.ownsRow base E sz (.slice (some ⟨g, 0, none⟩) K cap) K xs := by
  rcases h.2 with ⟨h1, h2⟩ | ⟨g', c, cur, h1, h2, h3, h4, h5, h6, h7⟩
  · cases h1
  · cases h1
    refine ⟨hx, .inr ⟨g, cap, cur, rfl, h2, h3, by omega, h5, h6, ?_⟩⟩
    have := congrArg (List.take (K * sz)) h7
    rw [List.take_take, Nat.min_eq_left (Nat.mul_le_mul_right _ (by omega)), ← hx, List.take_left] at this
    rw [← hx]
    exact this
/-- an append leaves the slice as it was: it writes behind it, or in a new block -/
theorem app_keep (hT : Tryz.prog.underlying T = some (.slice E)) (hinf : (Tryz.prog.info? E).map (fun i => (i.zero, i.size, i.bytes)) = some (some z, sz, by_)) (hz : z.cells.size = sz) (hsz : 0 < sz) (hby : by_ ≤ 1000) {w : World} {base K cap m c : Nat} {ta : Option Addr} {vb off : Nat} {xs ys : List Value} (hown : w.ownsRow base E sz (.slice ta K cap) K xs) (hbase : base ≤ w.heap.size) (hv : ∀ (j : Nat) u, ys[j]? = some u → w.cell? ⟨vb, off + j, none⟩ = some u) (hl : ys.length = m * sz) (h1 : ∀ u ∈ ys, u.oneCell' = true) (hK : K ≤ 2000000) (hm : 0 < m) (hm2 : m ≤ 2000000) (ty : TypeId) :
    ∃ g cap' w', (Builtin.append_ #[T, T] ty #[.slice ta K cap, .slice (some ⟨vb, off, none⟩) m c]).run Tryz.prog w = .ok (.slice (some ⟨g, 0, none⟩) (K + m) cap') w' ∧ w'.ownsRow base E sz (.slice (some ⟨g, 0, none⟩) (K + m) cap') (K + m) (xs ++ ys) ∧ w'.ownsRow base E sz (.slice ta K cap) K xs ∧ Fx (fun k => (Value.slice ta K cap).ownBlock = some k) w w' ∧
      ((Value.slice ta K cap).ownBlock = some g ∨ w.heap.size ≤ g) := by
  obtain ⟨i0, hi0, hz0, hz1, hz2⟩ := info_p hinf
  have hb : (K + m) * by_ ≤ 140737488355328 := by
    have : (K + m) * by_ ≤ 4000000 * 1000 := Nat.mul_le_mul (by omega) hby
    omega
  have hmx : K + m ≤ maxLen := by unfold maxLen; omega
  have hv' : ∀ (j : Nat) u, ys[j]? = some u → w.cell? ((⟨vb, off, none⟩ : Addr).add j) = some u := by
    intro j u hj
    rw [Addr.add_lit]
    exact hv j u hj
  have fin : ∀ v' w', (Builtin.append_ #[T, T] ty #[.slice ta K cap, .slice (some ⟨vb, off, none⟩) m c]).run Tryz.prog w = .ok v' w' → w'.ownsRow w.heap.size E sz v' (K + m) (xs ++ ys) → w.grownBy w' none → ∃ g cap' w', (Builtin.append_ #[T, T] ty #[.slice ta K cap, .slice (some ⟨vb, off, none⟩) m c]).run Tryz.prog w = .ok (.slice (some ⟨g, 0, none⟩) (K + m) cap') w' ∧ w'.ownsRow base E sz (.slice (some ⟨g, 0, none⟩) (K + m) cap') (K + m) (xs ++ ys) ∧ w'.ownsRow base E sz (.slice ta K cap) K xs ∧ Fx (fun k => (Value.slice ta K cap).ownBlock = some k) w w' ∧ ((Value.slice ta K cap).ownBlock = some g ∨ w.heap.size ≤ g) := by
    intro v' w' hr r1 r2
    obtain ⟨g, cap', rfl, hg, _⟩ := r1.form (by omega)
    exact ⟨g, cap', w', hr, Go.Joins.ownsRow_le r1 hbase, own_fx (S := fun _ => False) hown (fx_grown r2) (fun _ _ q => q), fx_grown r2, .inr hg⟩
  have hown' := hown
  rcases hown.2 with ⟨h0, h00⟩ | ⟨g, cap2, cur, h0, hg1, hg2, hg3, hg4, hg5, hg6⟩
  · cases h0
    obtain rfl : xs = [] := List.eq_nil_of_length_eq_zero (by simpa using hown.1)
    obtain ⟨v', w', hrun, r1, r2, _⟩ := run_append_own (P := Tryz.prog) w w.heap.size T ty E i0 z sz by_ hT hi0 hz0 hz1 hz2 hz hsz (.slice none 0 0) 0 [] (World.ownsRow_nil w _ E sz) ⟨vb, off, none⟩ m c ys hl hv' h1 hmx hb (Nat.le_refl _)
    exact fin v' w' hrun r1 r2
  · cases h0
    by_cases hr : K + m ≤ cap
    · obtain ⟨w', hrun, r1, r2⟩ := run_append_own_spare (P := Tryz.prog) w base T ty E i0 sz hT hi0 hz1 g K cap xs hown' ⟨vb, off, none⟩ m c ys hl hv' h1 hr
      exact ⟨g, cap, w', hrun, r1, own_part r1 hown.1, ⟨r2.os, r2.tape, r2.output, r2.size, fun k h1 h2 => r2.block k h1 (fun e => h2 e.symm)⟩, .inl rfl⟩
    · obtain ⟨v', w', hrun, r1, r2⟩ := run_append_arg_grows (P := Tryz.prog) w T ty E i0 z sz by_ hT hi0 hz0 hz1 hz2 hz hsz ⟨g, 0, none⟩ K cap xs hown.1 (fun j u hj => by
          rw [Addr.add_lit, Nat.zero_add]
          have hB : Bl w g cur E := hg2
          rw [← hg6] at hj
          have hlt := (List.getElem?_eq_some_iff.1 hj).1
          rw [List.length_take] at hlt
          rw [List.getElem?_take_of_lt (by omega)] at hj
          exact hB.cell (by simpa using hj)) ⟨vb, off, none⟩ m c ys hl hv' (by omega) hmx hb
      exact fin v' w' hrun r1 r2
/-- a store behind a slice leaves it -/
theorem own_far {w : World} {base K cap : Nat} {ta : Option Addr} {xs : List Value} (h : w.ownsRow base E sz (.slice ta K cap) K xs) (g j : Nat) (hj : K * sz ≤ j) (v : Value) : (w.setCell ⟨g, j, none⟩ v).ownsRow base E sz (.slice ta K cap) K xs := by
  rcases h.2 with ⟨h0, h00⟩ | ⟨q, cap2, cur, h0, hg1, hg2, hg3, hg4, hg5, hg6⟩
  · exact ⟨h.1, .inl ⟨h0, h00⟩⟩
  · cases h0
    have hB : Bl w q cur E := hg2
    by_cases hq : q = g
    · subst hq
      refine ⟨h.1, .inr ⟨q, cap, _, rfl, hg1, hB.set j v, hg3, hg4, by simpa using hg5, ?_⟩⟩
      rw [← hg6]
      apply List.ext_getElem?
      intro i
      rw [List.getElem?_take, List.getElem?_take]
      split
      · rename_i hi
        simp only [Array.getElem?_toList, Array.getElem?_setIfInBounds]
        rw [if_neg (by omega)]
      · rfl
    · exact ⟨h.1, .inr ⟨q, cap, cur, rfl, hg1, hB.other (q := ⟨g, j, none⟩) (Ne.symm hq) v, hg3, hg4, hg5, hg6⟩⟩
/-- a store into a slice -/
theorem own_put {w : World} {base K cap g : Nat} {xs : List Value} (h : w.ownsRow base E sz (.slice (some ⟨g, 0, none⟩) K cap) K xs) (j : Nat) (v : Value) : (w.setCell ⟨g, j, none⟩ v).ownsRow base E sz (.slice (some ⟨g, 0, none⟩) K cap) K (xs.set j v) := by
  rcases h.2 with ⟨h0, h00⟩ | ⟨q, cap2, cur, h0, hg1, hg2, hg3, hg4, hg5, hg6⟩
  · cases h0
  · cases h0
    have hB : Bl w g cur E := hg2
    refine ⟨by rw [List.length_set]; exact h.1, .inr ⟨g, cap, _, rfl, hg1, hB.set j v, hg3, hg4, by simpa using hg5, ?_⟩⟩
    rw [← hg6]
    apply List.ext_getElem?
    intro i
    rw [List.getElem?_take, List.getElem?_set, List.getElem?_take, List.length_take, Array.length_toList, Array.getElem?_toList, Array.getElem?_toList, Array.getElem?_setIfInBounds]
    have hkc := Nat.mul_le_mul_right sz hg3
    by_cases hi : i < K * sz <;> by_cases hji : j = i <;> by_cases hc : j < cur.size
    all_goals (try subst hji)
    all_goals simp_all
    all_goals (try (exfalso; omega))
    all_goals (repeat' split)
    all_goals first | rfl | (exfalso; omega)
/-- the cells of a row of one's own -/
theorem own_cellsX {w : World} {base K cap : Nat} {ta : Option Addr} {xs : List Value} (h : w.ownsRow base E sz (.slice ta K cap) K xs) (hK : 0 < K) : ∃ g cur, ta = some ⟨g, 0, none⟩ ∧ base ≤ g ∧ (∀ (j : Nat) u, xs[j]? = some u → w.cell? ⟨g, j, none⟩ = some u) ∧ Bl w g cur E ∧ cur.size = cap * sz ∧ K ≤ cap ∧ cap ≤ maxLen ∧ cur.toList.take (K * sz) = xs := by
  rcases h.2 with ⟨_, h0⟩ | ⟨g, c, cur, h1, h2, h3, h4, h5, h6, h7⟩
  · omega
  · cases h1
    have B : Bl w g cur E := h3
    refine ⟨g, cur, rfl, h2, fun j u hj => ?_, h3, h6, h4, h5, h7⟩
    rw [← h7] at hj
    have hlt := (List.getElem?_eq_some_iff.1 hj).1
    rw [List.length_take] at hlt
    rw [List.getElem?_take_of_lt (by omega)] at hj
    exact B.cell (by simpa using hj)
end
end Go.Proofs.YtocncffplcfpbaaGreatDoor
