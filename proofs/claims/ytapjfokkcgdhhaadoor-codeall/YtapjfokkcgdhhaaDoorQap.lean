import Derived.Test.YtapjfokkcgdhhaaDoorQab
import Derived.ArgAppend
import Derived.Lib.SmallJoins
import Derived.Deep.DeepAppendRoom
import Derived.Test.YtapjfokkcgdhhaaDoorQae
namespace Go.Proofs.YtapjfokkcgdhhaaDoor
open Go.RowKit
set_option linter.unusedVariables false
set_option linter.unusedSimpArgs false

theorem run_none2 {T E : TypeId} {z : Value} {sz by_ : Nat} (hT : Tryd.prog.underlying T = some (.slice E)) (hinf : (Tryd.prog.info? E).map (fun i => (i.zero, i.size, i.bytes)) = some (some z, sz, by_)) (w : World) (ty : TypeId) (ta p : Option Addr) (K cap c : Nat) (hle : K ≤ cap) : (Builtin.append_ #[T, T] ty #[.slice ta K cap, .slice p 0 c]).run Tryd.prog w = .ok (.slice ta K cap) w := by
  obtain ⟨i0, hi, hz0, hz1, hz2⟩ := info_p hinf
  cases p <;> cases ta <;> simp [Builtin.append_, run_underlying hT, sizeOf, typeInfo, hi, Builtin.lenOf, Builtin.firstCells, loadCells, loadCellsFrom, storeCells, hle]
theorem own_cap {w : World} {base K cap sz : Nat} {E : TypeId} {ta : Option Addr} {xs : List Value} (h : w.ownsRow base E sz (.slice ta K cap) K xs) : K ≤ cap := by
  rcases h.2 with ⟨h1, h2⟩ | ⟨g, c, cur, h1, _, _, h4, _⟩
  · omega
  · cases h1; exact h4
section
variable {T E : TypeId} {z : Value} {sz by_ : Nat}
/-- some things more in a row of one's own, none at all among them -/
theorem app_at (hT : Tryd.prog.underlying T = some (.slice E)) (hinf : (Tryd.prog.info? E).map (fun i => (i.zero, i.size, i.bytes)) = some (some z, sz, by_)) (hz : z.cells.size = sz) (hsz : 0 < sz) (hby : by_ ≤ 1000) {w : World} {base K cap m c : Nat} {ta sa : Option Addr} {xs ys : List Value} (hown : w.ownsRow base E sz (.slice ta K cap) K xs) (hbase : base ≤ w.heap.size) (hv : m = 0 ∨ ∃ vb off, sa = some ⟨vb, off, none⟩ ∧ ∀ (j : Nat) u, ys[j]? = some u → w.cell? ⟨vb, off + j, none⟩ = some u) (hl : ys.length = m * sz) (h1 : ∀ u ∈ ys, u.oneCell' = true) (hK : K ≤ 2000000) (hm2 : m ≤ 2000000) (ty : TypeId) :
    ∃ a' cap' w', (Builtin.append_ #[T, T] ty #[.slice ta K cap, .slice sa m c]).run Tryd.prog w = .ok (.slice a' (K + m) cap') w' ∧ w'.ownsRow base E sz (.slice a' (K + m) cap') (K + m) (xs ++ ys) ∧ Fx (fun k => (Value.slice ta K cap).ownBlock = some k) w w' ∧
      ((Value.slice a' (K + m) cap').ownBlock = (Value.slice ta K cap).ownBlock ∨ (Value.slice a' (K + m) cap').ownBlock = some w.heap.size) := by
  by_cases hm : m = 0
  · subst hm
    have : ys = [] := List.eq_nil_of_length_eq_zero (by omega)
    subst this
    exact ⟨ta, cap, w, run_none2 hT hinf w ty ta sa K cap c (own_cap hown), by rw [List.append_nil]; exact hown, Fx.refl _ _, .inl rfl⟩
  · rcases hv with h | ⟨vb, off, rfl, hv⟩
    · exact absurd h hm
    obtain ⟨i0, hi0, hz0, hz1, hz2⟩ := info_p hinf
    obtain ⟨g4, cap', w', hrun, hown', hgrow, hat, _⟩ := run_append_lies (P := Tryd.prog) w T ty base E i0 z sz by_ hT hi0 hz0 hz1 hz2 hz hsz (.slice ta K cap) K xs hown ⟨vb, off, none⟩ m c ys hl (by
        intro j u hj
        rw [Addr.add_lit]
        exact hv j u hj) h1 (by omega) (by unfold maxLen; omega) (by
        have : (K + m) * by_ ≤ 4000000 * 1000 := Nat.mul_le_mul (by omega) hby
        omega) hbase w.heap.size rfl
    refine ⟨some ⟨g4, 0, none⟩, cap', w', hrun, hown', ⟨hgrow.os, hgrow.tape, hgrow.output, hgrow.size, fun k h1 h2 => hgrow.block k h1 (fun e => h2 e.symm)⟩, ?_⟩
    rcases hat with h | h
    · exact .inl h.symm
    · exact .inr (by rw [h]; rfl)
theorem fx_grown {w w' : World} {S : Nat → Prop} (h : w.grownBy w' none) : Fx S w w' := ⟨h.os, h.tape, h.output, h.size, fun k h1 _ => h.block k h1 (by simp)⟩
/-- the slice of a longer row -/
theorem own_part {w : World} {base K m cap : Nat} {g : Nat} {xs ys : List Value} (h : w.ownsRow base E sz (.slice (some ⟨g, 0, none⟩) (K + m) cap) (K + m) (xs ++ ys)) (hx : xs.length = K * sz) : w.ownsRow base E sz (.slice (some ⟨g, 0, none⟩) K cap) K xs := by
  rcases h.2 with ⟨h1, h2⟩ | ⟨g', c, cur, h1, h2, h3, h4, h5, h6, h7⟩
  · cases h1
  · cases h1
    refine ⟨hx, .inr ⟨g, cap, cur, rfl, h2, h3, by omega, h5, h6, ?_⟩⟩
    have := congrArg (List.take (K * sz)) h7
    rw [List.take_take, Nat.min_eq_left (Nat.mul_le_mul_right _ (by omega)), ← hx, List.take_left] at this
    rw [← hx]
    exact this
/-- an append leaves the slice as it was: it writes behind it, or in a new block -/
theorem app_keep (hT : Tryd.prog.underlying T = some (.slice E)) (hinf : (Tryd.prog.info? E).map (fun i => (i.zero, i.size, i.bytes)) = some (some z, sz, by_)) (hz : z.cells.size = sz) (hsz : 0 < sz) (hby : by_ ≤ 1000) {w : World} {base K cap m c : Nat} {ta : Option Addr} {vb off : Nat} {xs ys : List Value} (hown : w.ownsRow base E sz (.slice ta K cap) K xs) (hbase : base ≤ w.heap.size) (hv : ∀ (j : Nat) u, ys[j]? = some u → w.cell? ⟨vb, off + j, none⟩ = some u) (hl : ys.length = m * sz) (h1 : ∀ u ∈ ys, u.oneCell' = true) (hK : K ≤ 2000000) (hm : 0 < m) (hm2 : m ≤ 2000000) (ty : TypeId) :
    ∃ g cap' w', (Builtin.append_ #[T, T] ty #[.slice ta K cap, .slice (some ⟨vb, off, none⟩) m c]).run Tryd.prog w = .ok (.slice (some ⟨g, 0, none⟩) (K + m) cap') w' ∧ w'.ownsRow base E sz (.slice (some ⟨g, 0, none⟩) (K + m) cap') (K + m) (xs ++ ys) ∧ w'.ownsRow base E sz (.slice ta K cap) K xs ∧ Fx (fun k => (Value.slice ta K cap).ownBlock = some k) w w' ∧
      ((Value.slice ta K cap).ownBlock = some g ∨ w.heap.size ≤ g) := by
  obtain ⟨i0, hi0, hz0, hz1, hz2⟩ := info_p hinf
  have hb : (K + m) * by_ ≤ 140737488355328 := by
    have : (K + m) * by_ ≤ 4000000 * 1000 := Nat.mul_le_mul (by omega) hby
    omega
  have hmx : K + m ≤ maxLen := by unfold maxLen; omega
  have hv' : ∀ (j : Nat) u, ys[j]? = some u → w.cell? ((⟨vb, off, none⟩ : Addr).add j) = some u := by
    intro j u hj
    rw [Addr.add_lit]
    exact hv j u hj
  have fin : ∀ v' w', (Builtin.append_ #[T, T] ty #[.slice ta K cap, .slice (some ⟨vb, off, none⟩) m c]).run Tryd.prog w = .ok v' w' → w'.ownsRow w.heap.size E sz v' (K + m) (xs ++ ys) → w.grownBy w' none → ∃ g cap' w', (Builtin.append_ #[T, T] ty #[.slice ta K cap, .slice (some ⟨vb, off, none⟩) m c]).run Tryd.prog w = .ok (.slice (some ⟨g, 0, none⟩) (K + m) cap') w' ∧ w'.ownsRow base E sz (.slice (some ⟨g, 0, none⟩) (K + m) cap') (K + m) (xs ++ ys) ∧ w'.ownsRow base E sz (.slice ta K cap) K xs ∧ Fx (fun k => (Value.slice ta K cap).ownBlock = some k) w w' ∧ ((Value.slice ta K cap).ownBlock = some g ∨ w.heap.size ≤ g) := by
    intro v' w' hr r1 r2
    obtain ⟨g, cap', rfl, hg, _⟩ := r1.form (by omega)
    exact ⟨g, cap', w', hr, Go.Joins.ownsRow_le r1 hbase, own_fx (S := fun _ => False) hown (fx_grown r2) (fun _ _ q => q), fx_grown r2, .inr hg⟩
  have hown' := hown
  rcases hown.2 with ⟨h0, h00⟩ | ⟨g, cap2, cur, h0, hg1, hg2, hg3, hg4, hg5, hg6⟩
  · cases h0
    obtain rfl : xs = [] := List.eq_nil_of_length_eq_zero (by simpa using hown.1)
    obtain ⟨v', w', hrun, r1, r2, _⟩ := run_append_own (P := Tryd.prog) w w.heap.size T ty E i0 z sz by_ hT hi0 hz0 hz1 hz2 hz hsz (.slice none 0 0) 0 [] (World.ownsRow_nil w _ E sz) ⟨vb, off, none⟩ m c ys hl hv' h1 hmx hb (Nat.le_refl _)
    exact fin v' w' hrun r1 r2
  · cases h0
    by_cases hr : K + m ≤ cap
    · obtain ⟨w', hrun, r1, r2⟩ := run_append_own_spare (P := Tryd.prog) w base T ty E i0 sz hT hi0 hz1 g K cap xs hown' ⟨vb, off, none⟩ m c ys hl hv' h1 hr
      exact ⟨g, cap, w', hrun, r1, own_part r1 hown.1, ⟨r2.os, r2.tape, r2.output, r2.size, fun k h1 h2 => r2.block k h1 (fun e => h2 e.symm)⟩, .inl rfl⟩
    · obtain ⟨v', w', hrun, r1, r2⟩ := run_append_arg_grows (P := Tryd.prog) w T ty E i0 z sz by_ hT hi0 hz0 hz1 hz2 hz hsz ⟨g, 0, none⟩ K cap xs hown.1 (fun j u hj => by
          rw [Addr.add_lit, Nat.zero_add]
          have hB : Bl w g cur E := hg2
          rw [← hg6] at hj
          have hlt := (List.getElem?_eq_some_iff.1 hj).1
          rw [List.length_take] at hlt
          rw [List.getElem?_take_of_lt (by omega)] at hj
          exact hB.cell (by simpa using hj)) ⟨vb, off, none⟩ m c ys hl hv' (by omega) hmx hb
      exact fin v' w' hrun r1 r2
/-- a store behind a slice leaves it -/
theorem own_far {w : World} {base K cap : Nat} {ta : Option Addr} {xs : List Value} (h : w.ownsRow base E sz (.slice ta K cap) K xs) (g j : Nat) (hj : K * sz ≤ j) (v : Value) : (w.setCell ⟨g, j, none⟩ v).ownsRow base E sz (.slice ta K cap) K xs := by
  rcases h.2 with ⟨h0, h00⟩ | ⟨q, cap2, cur, h0, hg1, hg2, hg3, hg4, hg5, hg6⟩
  · exact ⟨h.1, .inl ⟨h0, h00⟩⟩
  · cases h0
    have hB : Bl w q cur E := hg2
    by_cases hq : q = g
    · subst hq
      refine ⟨h.1, .inr ⟨q, cap, _, rfl, hg1, hB.set j v, hg3, hg4, by simpa using hg5, ?_⟩⟩
      rw [← hg6]
      apply List.ext_getElem?
      intro i
      rw [List.getElem?_take, List.getElem?_take]
      split
      · rename_i hi
        simp only [Array.getElem?_toList, Array.getElem?_setIfInBounds]
        rw [if_neg (by omega)]
      · rfl
    · exact ⟨h.1, .inr ⟨q, cap, cur, rfl, hg1, hB.other (q := ⟨g, j, none⟩) (Ne.symm hq) v, hg3, hg4, hg5, hg6⟩⟩
/-- a store into a slice -/
theorem own_put {w : World} {base K cap g : Nat} {xs : List Value} (h : w.ownsRow base E sz (.slice (some ⟨g, 0, none⟩) K cap) K xs) (j : Nat) (v : Value) : (w.setCell ⟨g, j, none⟩ v).ownsRow base E sz (.slice (some ⟨g, 0, none⟩) K cap) K (xs.set j v) := by
  rcases h.2 with ⟨h0, h00⟩ | ⟨q, cap2, cur, h0, hg1, hg2, hg3, hg4, hg5, hg6⟩
  · cases h0
  · cases h0
    have hB : Bl w g cur E := hg2
    refine ⟨by rw [List.length_set]; exact h.1, .inr ⟨g, cap, _, rfl, hg1, hB.set j v, hg3, hg4, by simpa using hg5, ?_⟩⟩
    rw [← hg6]
    apply List.ext_getElem?
    intro i
    rw [List.getElem?_take, List.getElem?_set, List.getElem?_take, List.length_take, Array.length_toList, Array.getElem?_toList, Array.getElem?_toList, Array.getElem?_setIfInBounds]
    have hkc := Nat.mul_le_mul_right sz hg3
    by_cases hi : i < K * sz <;> by_cases hji : j = i <;> by_cases hc : j < cur.size
    all_goals (try subst hji)
    all_goals simp_all
    all_goals (try (exfalso; omega))
    all_goals (repeat' split)
    all_goals first | rfl | (exfalso; omega)
/-- the cells of a row of one's own -/
theorem own_cellsX {w : World} {base K cap : Nat} {ta : Option Addr} {xs : List Value} (h : w.ownsRow base E sz (.slice ta K cap) K xs) (hK : 0 < K) : ∃ g cur, ta = some ⟨g, 0, none⟩ ∧ base ≤ g ∧ (∀ (j : Nat) u, xs[j]? = some u → w.cell? ⟨g, j, none⟩ = some u) ∧ Bl w g cur E ∧ cur.size = cap * sz ∧ K ≤ cap ∧ cap ≤ maxLen ∧ cur.toList.take (K * sz) = xs := by
  rcases h.2 with ⟨_, h0⟩ | ⟨g, c, cur, h1, h2, h3, h4, h5, h6, h7⟩
  · omega
  · cases h1
    have B : Bl w g cur E := h3
    refine ⟨g, cur, rfl, h2, fun j u hj => ?_, h3, h6, h4, h5, h7⟩
    rw [← h7] at hj
    have hlt := (List.getElem?_eq_some_iff.1 hj).1
    rw [List.length_take] at hlt
    rw [List.getElem?_take_of_lt (by omega)] at hj
    exact B.cell (by simpa using hj)
end
end Go.Proofs.YtapjfokkcgdhhaaDoor
namespace Go.Proofs.YtapjfokkcgdhhaaDoor
open Go.RowKit
set_option linter.unusedVariables false
set_option linter.unusedSimpArgs false

section
variable {T E I : TypeId} {z : Value} {sz by_ : Nat}
theorem app_three' (A B C : Array Value) : A ++ (B ++ C) = A ++ B ++ C := by
  apply Array.ext'
  simp
theorem zer_grow (hT : Tryd.prog.underlying T = some (.slice E)) (hI : Tryd.prog.underlying I = some (.int .i64)) (hinf : (Tryd.prog.info? E).map (fun i => (i.zero, i.size, i.bytes)) = some (some z, sz, by_)) (hz : z.cells.size = sz) (hsz : 0 < sz) (hby : by_ ≤ 1000) (w : World) (ty : TypeId) (ta : Option Addr) (n cap m : Nat) (xs : List Value) (hlo : xs.length = n * sz) (hnone : ta = none → n = 0) (holds : ∀ b, ta = some b → ∀ (j : Nat) u, xs[j]? = some u → w.cell? (b.add j) = some u) (hg : cap < n + m) (hn : n ≤ 2000000) (hm0 : 0 < m) (hm : m ≤ 1000) :
    (Builtin.append_ #[T, I] ty #[.slice ta n cap, .int .i64 (m : Int)]).run Tryd.prog w =
      .ok (.slice (some ⟨w.heap.size, 0, none⟩) (n + m) (grownCap w (n + m) cap E))
        (w.drew.alloc (.cells (xs.toArray ++ Builtin.zeroCells z.cells m ++ Builtin.zeroCells z.cells (grownCap w (n + m) cap E - (n + m))) E)) := by
  obtain ⟨i0, hi, hz0, hz1, hz2⟩ := info_p hinf
  have hn' : ¬ (n + m ≤ cap) := by omega
  have h63' : ¬ (9223372036854775807 < ((n : Int) + (m : Int))) := by omega
  have h48' : ¬ (281474976710656 < Builtin.nextslicecap (n + m) cap * by_) := by
    have hb : (n + m) * by_ ≤ 2001000 * 1000 := Nat.mul_le_mul (by omega) hby
    have := growslice_fits (need := n + m) (old := cap) (bytes := by_) hg (by omega)
    omega
  have hlb : ¬ ((281474976710656 : Int) < (m : Int) * (by_ : Int)) := by
    have hb : m * by_ ≤ 1000 * 1000 := Nat.mul_le_mul hm hby
    have : ((m * by_ : Nat) : Int) ≤ 1000000 := by omega
    rw [Int.natCast_mul] at this
    omega
  have hw : IntKind.i64.wrap (m : Int) = m := by
    simp [IntKind.wrap, IntKind.signed, IntKind.bits]; omega
  have h00 : ¬ (m = 0) := by omega
  have hs0 : ¬ (sz = 0) := by omega
  have hneg : ¬ ((m : Int) < 0) := by omega
  have hfo : (Builtin.firstCells sz n (.slice ta n cap)).run Tryd.prog w.drew = .ok xs.toArray w.drew := by
    cases ta with
    | some b => exact run_firstCells_some (P := Tryd.prog) w.drew sz n b n cap xs hlo (by simpa using holds b rfl)
    | none =>
      obtain rfl := hnone rfl
      obtain rfl : xs = [] := List.eq_nil_of_length_eq_zero (by simpa using hlo)
      exact run_firstCells_none _ _ _ _ _
  simp [Builtin.append_, run_underlying hT, run_underlying hI, sizeOf, typeInfo, zeroValue, hi, hz0, hz1, hz2, asInt, asIntOf, hw, hneg, hlb, hn', h63', h48', Question.forced, hfo, newRow, grownCap]
  intro h0
  exfalso
  rcases Nat.mul_eq_zero.1 h0 with q | q <;> omega
theorem zer_room (hT : Tryd.prog.underlying T = some (.slice E)) (hI : Tryd.prog.underlying I = some (.int .i64)) (hinf : (Tryd.prog.info? E).map (fun i => (i.zero, i.size, i.bytes)) = some (some z, sz, by_)) (hz : z.cells.size = sz) (hsz : 0 < sz) (hby : by_ ≤ 1000) {m : Nat} (h1 : ∀ u ∈ (Builtin.zeroCells z.cells m).toList, u.oneCell' = true) (w : World) (ty : TypeId) (g n cap : Nat) (cur : Array Value) (hg : w.heap[g]? = some (.cells cur E (0, 0))) (hroom : n + m ≤ cap) (hfit : (n + m) * sz ≤ cur.size) (hm0 : 0 < m) (hm : m ≤ 1000) :
    (Builtin.append_ #[T, I] ty #[.slice (some ⟨g, 0, none⟩) n cap, .int .i64 (m : Int)]).run Tryd.prog w =
      .ok (.slice (some ⟨g, 0, none⟩) (n + m) cap) (w.setRow g (cur.toList.take (n * sz) ++ (Builtin.zeroCells z.cells m).toList ++ cur.toList.drop (n * sz + (Builtin.zeroCells z.cells m).toList.length)).toArray) := by
  obtain ⟨i0, hi, hz0, hz1, hz2⟩ := info_p hinf
  have hlb : ¬ ((281474976710656 : Int) < (m : Int) * (by_ : Int)) := by
    have hb : m * by_ ≤ 1000 * 1000 := Nat.mul_le_mul hm hby
    have : ((m * by_ : Nat) : Int) ≤ 1000000 := by omega
    rw [Int.natCast_mul] at this
    omega
  have hw : IntKind.i64.wrap (m : Int) = m := by
    simp [IntKind.wrap, IntKind.signed, IntKind.bits]; omega
  have h00 : ¬ (m = 0) := by omega
  have hs0 : ¬ (sz = 0) := by omega
  have hneg : ¬ ((m : Int) < 0) := by omega
  have hst := run_storeCells_at Tryd.prog g (n * sz) E (Builtin.zeroCells z.cells m).toList 0 cur w hg (by
    simp only [Array.length_toList, size_zeroCells, hz, Nat.add_zero]
    have := Nat.add_mul n m sz
    omega) h1
  simp only [Nat.add_zero] at hst
  simp [Builtin.append_, run_underlying hT, run_underlying hI, sizeOf, typeInfo, zeroValue, hi, hz0, hz1, hz2, asInt, asIntOf, hw, hneg, hlb, hroom, Addr.add_lit]
  simp at hst
  rw [hst, if_neg (fun h0 => by rcases Nat.mul_eq_zero.1 h0 with q | q <;> omega)]
  rfl
theorem zer_keep (hT : Tryd.prog.underlying T = some (.slice E)) (hI : Tryd.prog.underlying I = some (.int .i64)) (hinf : (Tryd.prog.info? E).map (fun i => (i.zero, i.size, i.bytes)) = some (some z, sz, by_)) (hz : z.cells.size = sz) (hsz : 0 < sz) (hby : by_ ≤ 1000) {m : Nat} (h1 : ∀ u ∈ (Builtin.zeroCells z.cells m).toList, u.oneCell' = true) {w : World} {base K cap : Nat} {ta : Option Addr} {xs : List Value} (hown : w.ownsRow base E sz (.slice ta K cap) K xs) (hbase : base ≤ w.heap.size) (hK : K ≤ 2000000) (hm : 0 < m) (hm2 : m ≤ 1000) (ty : TypeId) :
    ∃ g cap' w', (Builtin.append_ #[T, I] ty #[.slice ta K cap, .int .i64 (m : Int)]).run Tryd.prog w = .ok (.slice (some ⟨g, 0, none⟩) (K + m) cap') w' ∧ w'.ownsRow base E sz (.slice (some ⟨g, 0, none⟩) (K + m) cap') (K + m) (xs ++ (Builtin.zeroCells z.cells m).toList) ∧ w'.ownsRow base E sz (.slice ta K cap) K xs ∧ Fx (fun k => (Value.slice ta K cap).ownBlock = some k) w w' ∧
      ((Value.slice ta K cap).ownBlock = some g ∨ w.heap.size ≤ g) := by
  have hzl : (Builtin.zeroCells z.cells m).toList.length = m * sz := by simp only [Array.length_toList, size_zeroCells, hz]
  have hlen : (xs ++ (Builtin.zeroCells z.cells m).toList).length = (K + m) * sz := by rw [List.length_append, hown.1, hzl, Nat.add_mul]
  have grown : ∀ (hnone : ta = none → K = 0) (holds : ∀ b, ta = some b → ∀ (j : Nat) u, xs[j]? = some u → w.cell? (b.add j) = some u) (hg : cap < K + m), ∃ g cap' w', (Builtin.append_ #[T, I] ty #[.slice ta K cap, .int .i64 (m : Int)]).run Tryd.prog w = .ok (.slice (some ⟨g, 0, none⟩) (K + m) cap') w' ∧ w'.ownsRow base E sz (.slice (some ⟨g, 0, none⟩) (K + m) cap') (K + m) (xs ++ (Builtin.zeroCells z.cells m).toList) ∧ w'.ownsRow base E sz (.slice ta K cap) K xs ∧ Fx (fun k => (Value.slice ta K cap).ownBlock = some k) w w' ∧ ((Value.slice ta K cap).ownBlock = some g ∨ w.heap.size ≤ g) := by
    intro hnone holds hg
    have hr := zer_grow hT hI hinf hz hsz hby w ty ta K cap m xs hown.1 hnone holds hg hK hm hm2
    have hgr : w.grownBy (w.drew.alloc (.cells (xs.toArray ++ Builtin.zeroCells z.cells m ++ Builtin.zeroCells z.cells (grownCap w (K + m) cap E - (K + m))) E)) none := ⟨rfl, rfl, rfl, by simp, fun k hk _ => heap_alloc_old w.drew _ hk⟩
    refine ⟨_, _, _, hr, ⟨hlen, .inr ⟨w.heap.size, _, _, rfl, hbase, heap_alloc_new w.drew _, grownCap_ge w (K + m) cap E, grownCap_le_maxLen w (K + m) cap E (by unfold maxLen; omega), ?_, ?_⟩⟩, own_fx (S := fun _ => False) hown (fx_grown hgr) (fun _ _ q => q), fx_grown hgr, .inr (Nat.le_refl _)⟩
    · have := grownCap_ge w (K + m) cap E
      simp only [Array.size_append, List.size_toArray, size_zeroCells, hz, hown.1, ← Nat.add_mul]
      rw [show K + m + (grownCap w (K + m) cap E - (K + m)) = grownCap w (K + m) cap E by omega]
    · simp only [Array.toList_append]
      rw [← hlen]
      exact List.take_left
  rcases hown.2 with ⟨h0, h00⟩ | ⟨g, cap2, cur, h0, hg1, hg2, hg3, hg4, hg5, hg6⟩
  · cases h0
    exact grown (fun _ => h00) (fun b hb => by cases hb) (by omega)
  · cases h0
    by_cases hr : K + m ≤ cap
    · have hrun := zer_room hT hI hinf hz hsz hby h1 w ty g K cap cur hg2 hr (by rw [hg5]; exact Nat.mul_le_mul_right _ hr) hm hm2
      have hkm : (K + m) * sz ≤ cap * sz := Nat.mul_le_mul_right _ hr
      rw [Nat.add_mul] at hkm
      have h5 : w.grownBy (w.setRow g (cur.toList.take (K * sz) ++ (Builtin.zeroCells z.cells m).toList ++ cur.toList.drop (K * sz + (Builtin.zeroCells z.cells m).toList.length)).toArray) (some g) := ⟨rfl, rfl, rfl, by simp, fun k _ hk => setRow_other w g k _ (fun e => hk (by simp [e]))⟩
      have h6 : (w.setRow g (cur.toList.take (K * sz) ++ (Builtin.zeroCells z.cells m).toList ++ cur.toList.drop (K * sz + (Builtin.zeroCells z.cells m).toList.length)).toArray).ownsRow base E sz (.slice (some ⟨g, 0, none⟩) (K + m) cap) (K + m) (xs ++ (Builtin.zeroCells z.cells m).toList) := by
        refine ⟨hlen, .inr ⟨g, cap, _, rfl, hg1, setRow_heap w g cur _ E _ hg2, hr, hg4, ?_, ?_⟩⟩
        · simp only [List.size_toArray, List.length_append, List.length_take, List.length_drop, Array.length_toList, size_zeroCells, hz]
          omega
        · rw [hg6, ← hlen]
          exact List.take_left
      exact ⟨g, cap, _, hrun, h6, own_part h6 hown.1, ⟨h5.os, h5.tape, h5.output, h5.size, fun k h1 h2 => h5.block k h1 (fun e => h2 e.symm)⟩, .inl rfl⟩
    · exact grown (fun e => by cases e) (fun b hb => by cases hb; exact hown.cells (g := g) rfl) (by omega)
end
end Go.Proofs.YtapjfokkcgdhhaaDoor
namespace Go.Proofs.YtapjfokkcgdhhaaDoor
open Go.RowKit
set_option linter.unusedVariables false
set_option linter.unusedSimpArgs false

/-- instructions as cells -/
def icl : List (Int × Int) → List Value
  | [] => []
  | x :: l => .int .i64 x.1 :: .int .i64 x.2 :: icl l
theorem icl_at : ∀ {l : List (Int × Int)} {j : Nat} {x : Int × Int}, l[j]? = some x → (icl l)[j * 2]? = some (.int .i64 x.1) ∧ (icl l)[j * 2 + 1]? = some (.int .i64 x.2)
  | [], j, x, h => by simp at h
  | y :: l, 0, x, h => by
    simp at h
    subst h
    exact ⟨rfl, rfl⟩
  | y :: l, j + 1, x, h => by
    have := icl_at (l := l) (j := j) (x := x) (by simpa using h)
    rw [show (j + 1) * 2 = j * 2 + 1 + 1 by omega]
    exact this
theorem icl_len : ∀ (l : List (Int × Int)), (icl l).length = l.length * 2
  | [] => rfl
  | x :: l => by simp only [icl, List.length_cons, icl_len l]; omega
theorem icl_app : ∀ (l m : List (Int × Int)), icl (l ++ m) = icl l ++ icl m
  | [], m => rfl
  | x :: l, m => by simp only [List.cons_append, icl, icl_app l m]
theorem icl_one : ∀ {l : List (Int × Int)}, ∀ u ∈ icl l, u.oneCell' = true
  | [], u, h => by cases h
  | x :: l, u, h => by
    simp only [icl, List.mem_cons] at h
    rcases h with rfl | rfl | h
    · rfl
    · rfl
    · exact icl_one u h
theorem icl_back : ∀ {l : List (Int × Int)} {j : Nat} {u : Value}, (icl l)[j]? = some u → ∃ k x, l[k]? = some x ∧ ((j = k * 2 ∧ u = .int .i64 x.1) ∨ (j = k * 2 + 1 ∧ u = .int .i64 x.2))
  | [], j, u, h => by simp [icl] at h
  | y :: l, 0, u, h => by
    simp [icl] at h
    exact ⟨0, y, rfl, .inl ⟨rfl, h.symm⟩⟩
  | y :: l, 1, u, h => by
    simp [icl] at h
    exact ⟨0, y, rfl, .inr ⟨rfl, h.symm⟩⟩
  | y :: l, j + 2, u, h => by
    obtain ⟨k, x, h1, h2⟩ := icl_back (l := l) (j := j) (u := u) (by simpa [icl] using h)
    exact ⟨k + 1, x, by simpa using h1, h2.imp (fun q => ⟨by omega, q.2⟩) (fun q => ⟨by omega, q.2⟩)⟩
/-- functions as cells, their codes' slices beside them -/
def fcl : List (Int × Int × Int × List (Int × Int)) → List Value → List Value
  | f :: fs, c :: cs => .int .i64 f.1 :: .int .i64 f.2.1 :: .int .i64 f.2.2.1 :: c :: fcl fs cs
  | _, _ => []
theorem fcl_at : ∀ {fs : List (Int × Int × Int × List (Int × Int))} {cs : List Value} {j : Nat} {f : Int × Int × Int × List (Int × Int)} {c : Value}, fs[j]? = some f → cs[j]? = some c → (fcl fs cs)[j * 4]? = some (.int .i64 f.1) ∧ (fcl fs cs)[j * 4 + 1]? = some (.int .i64 f.2.1) ∧ (fcl fs cs)[j * 4 + 2]? = some (.int .i64 f.2.2.1) ∧ (fcl fs cs)[j * 4 + 3]? = some c
  | [], cs, j, f, c, h, h' => by simp at h
  | y :: fs, [], j, f, c, h, h' => by simp at h'
  | y :: fs, d :: cs, 0, f, c, h, h' => by
    simp at h h'
    subst h h'
    exact ⟨rfl, rfl, rfl, rfl⟩
  | y :: fs, d :: cs, j + 1, f, c, h, h' => by
    have := fcl_at (fs := fs) (cs := cs) (j := j) (f := f) (c := c) (by simpa using h) (by simpa using h')
    rw [show (j + 1) * 4 = j * 4 + 1 + 1 + 1 + 1 by omega]
    exact this
theorem fcl_len : ∀ {fs : List (Int × Int × Int × List (Int × Int))} {cs : List Value}, cs.length = fs.length → (fcl fs cs).length = fs.length * 4
  | [], [], _ => rfl
  | y :: fs, d :: cs, h => by
    have := fcl_len (fs := fs) (cs := cs) (by simpa using h)
    simp only [fcl, List.length_cons, this]; omega
  | [], d :: cs, h => by simp at h
  | y :: fs, [], h => by simp at h
theorem fcl_up : ∀ {fs : List (Int × Int × Int × List (Int × Int))} {cs : List Value} (f : Int × Int × Int × List (Int × Int)) (c : Value), cs.length = fs.length → fcl (fs ++ [f]) (cs ++ [c]) = fcl fs cs ++ [.int .i64 f.1, .int .i64 f.2.1, .int .i64 f.2.2.1, c]
  | [], [], f, c, _ => rfl
  | y :: fs, d :: cs, f, c, h => by
    have := fcl_up (fs := fs) (cs := cs) f c (by simpa using h)
    simp only [List.cons_append, fcl, this]
  | [], d :: cs, f, c, h => by simp at h
  | y :: fs, [], f, c, h => by simp at h
/-- a text of one's own, with marks behind it -/
def TxL (w : World) (lo : Nat) (mk : List Int) (v : Value) (t : List Int) : Prop := Byt t ∧ ∃ a c, v = .slice a t.length c ∧ w.ownsRow lo 5 1 (.slice a (t.length + mk.length) c) (t.length + mk.length) (bvs (t ++ mk))
/-- a code of one's own, with marks behind it -/
def CdL (w : World) (lo : Nat) (mk : List (Int × Int)) (v : Value) (l : List (Int × Int)) : Prop := ∃ a c, v = .slice a l.length c ∧ w.ownsRow lo 61 2 (.slice a (l.length + mk.length) c) (l.length + mk.length) (icl (l ++ mk))
theorem ob_len {a : Option Addr} {n m c : Nat} : (Value.slice a n c).ownBlock = (Value.slice a m c).ownBlock := by
  cases a <;> rfl
theorem TxL.fx {Q : Nat → Prop} {w w' : World} {lo : Nat} {mk t : List Int} {v : Value} (h : TxL w lo mk v t) (x : Fx Q w w') (hQ : ∀ k, v.ownBlock = some k → ¬ Q k) : TxL w' lo mk v t := by
  obtain ⟨h1, a, c, rfl, h2⟩ := h
  exact ⟨h1, a, c, rfl, own_fx h2 x fun k hk => hQ k (by rw [← hk]; exact ob_len)⟩
theorem CdL.fx {Q : Nat → Prop} {w w' : World} {lo : Nat} {mk t : List (Int × Int)} {v : Value} (h : CdL w lo mk v t) (x : Fx Q w w') (hQ : ∀ k, v.ownBlock = some k → ¬ Q k) : CdL w' lo mk v t := by
  obtain ⟨a, c, rfl, h2⟩ := h
  exact ⟨a, c, rfl, own_fx h2 x fun k hk => hQ k (by rw [← hk]; exact ob_len)⟩
/-- rows of other things lie apart -/
theorem own_apart {w : World} {E E' : TypeId} {b1 b2 s1 s2 n n' : Nat} {v v' : Value} {xs xs' : List Value} (h : w.ownsRow b1 E s1 v n xs) (h' : w.ownsRow b2 E' s2 v' n' xs') (hE : E ≠ E') {k : Nat} (hk : v.ownBlock = some k) : v'.ownBlock ≠ some k := by
  intro hk'
  rcases h.2 with ⟨rfl, _⟩ | ⟨g, c, cur, rfl, _, h3, _⟩
  · cases hk
  · rcases h'.2 with ⟨rfl, _⟩ | ⟨g', c', cur', rfl, _, h3', _⟩
    · cases hk'
    · cases hk; cases hk'
      rw [h3] at h3'
      cases h3'
      exact hE rfl
theorem TxL.ob {w : World} {lo : Nat} {mk t : List Int} {v : Value} (h : TxL w lo mk v t) {k : Nat} (hk : v.ownBlock = some k) : lo ≤ k ∧ k < w.heap.size := by
  obtain ⟨h1, a, c, rfl, h2⟩ := h
  exact own_ge h2 (by rw [← hk]; exact ob_len)
theorem CdL.ob {w : World} {lo : Nat} {mk t : List (Int × Int)} {v : Value} (h : CdL w lo mk v t) {k : Nat} (hk : v.ownBlock = some k) : lo ≤ k ∧ k < w.heap.size := by
  obtain ⟨a, c, rfl, h2⟩ := h
  exact own_ge h2 (by rw [← hk]; exact ob_len)
theorem TxL.other {w : World} {lo b2 s2 n' : Nat} {mk t : List Int} {v v' : Value} {E : TypeId} {xs : List Value} (h : TxL w lo mk v t) (h' : w.ownsRow b2 E s2 v' n' xs) (hE : 5 ≠ E) {k : Nat} (hk : v.ownBlock = some k) : v'.ownBlock ≠ some k := by
  obtain ⟨h1, a, c, rfl, h2⟩ := h
  exact own_apart h2 h' hE (by rw [← hk]; exact ob_len)
theorem CdL.other {w : World} {lo b2 s2 n' : Nat} {mk t : List (Int × Int)} {v v' : Value} {E : TypeId} {xs : List Value} (h : CdL w lo mk v t) (h' : w.ownsRow b2 E s2 v' n' xs) (hE : 61 ≠ E) {k : Nat} (hk : v.ownBlock = some k) : v'.ownBlock ≠ some k := by
  obtain ⟨a, c, rfl, h2⟩ := h
  exact own_apart h2 h' hE (by rw [← hk]; exact ob_len)
/-- the texts of a list -/
def TL (w : World) (lo : Nat) (mk : List Int) (vs : List Value) (ts : List (List Int)) : Prop := vs.length = ts.length ∧ ∀ (j : Nat) v t, vs[j]? = some v → ts[j]? = some t → TxL w lo mk v t
/-- values that lie apart -/
def Ap (cs : List Value) : Prop := ∀ (i j : Nat) a b k, i ≠ j → cs[i]? = some a → cs[j]? = some b → a.ownBlock = some k → b.ownBlock ≠ some k
/-- the codes of a list -/
def CL (w : World) (lo : Nat) (mk : List (Int × Int)) (cs : List Value) (fs : List (Int × Int × Int × List (Int × Int))) : Prop := cs.length = fs.length ∧ (∀ (j : Nat) c f, cs[j]? = some c → fs[j]? = some f → CdL w lo mk c f.2.2.2) ∧ Ap cs
theorem TL.fx {Q : Nat → Prop} {w w' : World} {lo : Nat} {mk : List Int} {vs : List Value} {ts : List (List Int)} (h : TL w lo mk vs ts) (x : Fx Q w w') (hQ : ∀ (j : Nat) v t k, vs[j]? = some v → ts[j]? = some t → v.ownBlock = some k → ¬ Q k) : TL w' lo mk vs ts :=
  ⟨h.1, fun j v t h1 h2 => (h.2 j v t h1 h2).fx x fun k hk => hQ j v t k h1 h2 hk⟩
theorem CL.fx {Q : Nat → Prop} {w w' : World} {lo : Nat} {mk : List (Int × Int)} {cs : List Value} {fs : List (Int × Int × Int × List (Int × Int))} (h : CL w lo mk cs fs) (x : Fx Q w w') (hQ : ∀ (j : Nat) v t k, cs[j]? = some v → fs[j]? = some t → v.ownBlock = some k → ¬ Q k) : CL w' lo mk cs fs :=
  ⟨h.1, fun j v t h1 h2 => (h.2.1 j v t h1 h2).fx x fun k hk => hQ j v t k h1 h2 hk, h.2.2⟩
theorem TL.quiet {w w' : World} {lo : Nat} {mk : List Int} {vs : List Value} {ts : List (List Int)} (h : TL w lo mk vs ts) (o : Out 0 0 w w') : TL w' lo mk vs ts := h.fx (Q := fun _ => False) (Fx.of_out o) fun _ _ _ _ _ _ _ q => q
theorem CL.quiet {w w' : World} {lo : Nat} {mk : List (Int × Int)} {cs : List Value} {fs : List (Int × Int × Int × List (Int × Int))} (h : CL w lo mk cs fs) (o : Out 0 0 w w') : CL w' lo mk cs fs := h.fx (Q := fun _ => False) (Fx.of_out o) fun _ _ _ _ _ _ _ q => q
theorem TL.up {w : World} {lo : Nat} {mk : List Int} {vs : List Value} {ts : List (List Int)} {v : Value} {t : List Int} (h : TL w lo mk vs ts) (h2 : TxL w lo mk v t) : TL w lo mk (vs ++ [v]) (ts ++ [t]) := by
  refine ⟨by simp [h.1], fun j v' t' q1 q2 => ?_⟩
  by_cases hj : j < vs.length
  · rw [List.getElem?_append_left hj] at q1
    rw [List.getElem?_append_left (by have := h.1; omega)] at q2
    exact h.2 j v' t' q1 q2
  · have hlt := (List.getElem?_eq_some_iff.1 q1).1
    simp at hlt
    obtain rfl : j = vs.length := by omega
    simp at q1
    rw [h.1] at q2
    simp at q2
    subst q1 q2
    exact h2
theorem Ap.up {cs : List Value} {c : Value} {N : Nat} (h : Ap cs) (hl : ∀ (j : Nat) a k, cs[j]? = some a → a.ownBlock = some k → k < N) (hc : ∀ k, c.ownBlock = some k → N ≤ k) : Ap (cs ++ [c]) := by
  have key : ∀ (j : Nat) a, (cs ++ [c])[j]? = some a → (cs[j]? = some a) ∨ (j = cs.length ∧ a = c) := by
    intro j a q
    by_cases hj : j < cs.length
    · rw [List.getElem?_append_left hj] at q; exact .inl q
    · have hlt := (List.getElem?_eq_some_iff.1 q).1
      simp at hlt
      obtain rfl : j = cs.length := by omega
      simp at q
      exact .inr ⟨rfl, q.symm⟩
  intro i j a b k hij h1 h2 h3 h4
  rcases key i a h1 with q1 | ⟨q1, rfl⟩ <;> rcases key j b h2 with q2 | ⟨q2, rfl⟩
  · exact h i j a b k hij q1 q2 h3 h4
  · have := hl i a k q1 h3; have := hc k h4; omega
  · have := hl j b k q2 h4; have := hc k h3; omega
  · exact hij (q1.trans q2.symm)
theorem CL.up {w : World} {lo N : Nat} {mk : List (Int × Int)} {cs : List Value} {fs : List (Int × Int × Int × List (Int × Int))} {c : Value} {f : Int × Int × Int × List (Int × Int)} (h : CL w lo mk cs fs) (h2 : CdL w lo mk c f.2.2.2) (hl : ∀ (j : Nat) a k, cs[j]? = some a → a.ownBlock = some k → k < N) (hc : ∀ k, c.ownBlock = some k → N ≤ k) : CL w lo mk (cs ++ [c]) (fs ++ [f]) := by
  refine ⟨by simp [h.1], fun j v' t' q1 q2 => ?_, h.2.2.up hl hc⟩
  by_cases hj : j < cs.length
  · rw [List.getElem?_append_left hj] at q1
    rw [List.getElem?_append_left (by have := h.1; omega)] at q2
    exact h.2.1 j v' t' q1 q2
  · have hlt := (List.getElem?_eq_some_iff.1 q1).1
    simp at hlt
    obtain rfl : j = cs.length := by omega
    simp at q1
    rw [h.1] at q2
    simp at q2
    subst q1 q2
    exact h2
theorem CL.lt {w : World} {lo : Nat} {mk : List (Int × Int)} {cs : List Value} {fs : List (Int × Int × Int × List (Int × Int))} (h : CL w lo mk cs fs) {j : Nat} {a : Value} {k : Nat} (hj : cs[j]? = some a) (hk : a.ownBlock = some k) : k < w.heap.size := by
  obtain ⟨f, hf⟩ : ∃ f, fs[j]? = some f := ⟨_, List.getElem?_eq_getElem (by have := (List.getElem?_eq_some_iff.1 hj).1; have := h.1; omega)⟩
  exact ((h.2.1 j a f hj hf).ob hk).2
theorem TxL.by {w : World} {lo : Nat} {mk t : List Int} {v : Value} (h : TxL w lo mk v t) : ∃ a c, v = .slice a t.length c ∧ ByIn w w.heap.size a t := by
  obtain ⟨h1, a, c, rfl, h2⟩ := h
  refine ⟨a, c, rfl, h1, ?_⟩
  by_cases h0 : t = []
  · exact .inl h0
  · have hl : 0 < t.length := List.length_pos_iff.2 h0
    obtain ⟨g, cur, rfl, q1, q2, q3, -⟩ := own_cellsX h2 (by omega)
    refine .inr ⟨g, 0, rfl, q3.lt, fun j x hj => ?_⟩
    rw [Nat.zero_add]
    refine q2 j _ ?_
    unfold bvs
    rw [List.map_append, List.getElem?_append_left (by simpa using (List.getElem?_eq_some_iff.1 hj).1), List.getElem?_map, hj]
    rfl
theorem CdL.in {w : World} {lo : Nat} {mk l : List (Int × Int)} {v : Value} (h : CdL w lo mk v l) : ∃ a c, v = .slice a l.length c ∧ InIn w w.heap.size a l := by
  obtain ⟨a, c, rfl, h2⟩ := h
  refine ⟨a, c, rfl, ?_⟩
  by_cases h0 : l = []
  · exact .inl h0
  · have hl : 0 < l.length := List.length_pos_iff.2 h0
    obtain ⟨g, cur, rfl, q1, q2, q3, -⟩ := own_cellsX h2 (by omega)
    refine .inr ⟨g, 0, rfl, q3.lt, fun j x hj => ?_⟩
    obtain ⟨c1, c2⟩ := icl_at hj
    have hlt := (List.getElem?_eq_some_iff.1 hj).1
    rw [Nat.zero_add]
    rw [icl_app] at q2
    exact ⟨q2 _ _ (by rw [List.getElem?_append_left (by rw [icl_len]; omega)]; exact c1), q2 _ _ (by rw [List.getElem?_append_left (by rw [icl_len]; omega)]; exact c2)⟩
/-- the lists of a program that was lent -/
theorem TL.tx {w : World} {lo K c : Nat} {mk : List Int} {vs zs : List Value} {ts : List (List Int)} {a : Option Addr} (h : TL w lo mk vs ts) (hown : w.ownsRow lo 22 1 (.slice a K c) K (vs ++ zs)) : TxIn w w.heap.size a ts := by
  by_cases h0 : ts = []
  · exact .inl h0
  · have hl : 0 < ts.length := List.length_pos_iff.2 h0
    have hk := hown.1
    rw [List.length_append] at hk
    obtain ⟨g, cur, rfl, q1, q2, q3, -⟩ := own_cellsX hown (by have := h.1; omega)
    refine .inr ⟨g, 0, rfl, q3.lt, fun j t hj => ?_⟩
    have hlt := (List.getElem?_eq_some_iff.1 hj).1
    obtain ⟨v, hv⟩ : ∃ v, vs[j]? = some v := ⟨_, List.getElem?_eq_getElem (by have := h.1; omega)⟩
    obtain ⟨a, c, rfl, hb⟩ := (h.2 j v t hv hj).by
    refine ⟨a, c, ?_, hb⟩
    rw [Nat.zero_add]
    exact q2 j _ (by rw [List.getElem?_append_left (by have := h.1; omega)]; exact hv)
theorem CL.fn {w : World} {lo K c : Nat} {mk : List (Int × Int)} {cs zs : List Value} {fs : List (Int × Int × Int × List (Int × Int))} {a : Option Addr} (h : CL w lo mk cs fs) (hown : w.ownsRow lo 40 4 (.slice a K c) K (fcl fs cs ++ zs)) : FnIn w w.heap.size a fs := by
  by_cases h0 : fs = []
  · exact .inl h0
  · have hl : 0 < fs.length := List.length_pos_iff.2 h0
    have hk := hown.1
    rw [List.length_append, fcl_len h.1] at hk
    obtain ⟨g, cur, rfl, q1, q2, q3, -⟩ := own_cellsX hown (by omega)
    refine .inr ⟨g, 0, rfl, q3.lt, fun j f hj => ?_⟩
    have hlt := (List.getElem?_eq_some_iff.1 hj).1
    obtain ⟨v, hv⟩ : ∃ v, cs[j]? = some v := ⟨_, List.getElem?_eq_getElem (by have := h.1; omega)⟩
    obtain ⟨a, c, rfl, hb⟩ := (h.2.1 j v f hv hj).in
    obtain ⟨c0, c1, c2, c3⟩ := fcl_at hj hv
    have hz : ∀ (i : Nat) u, i < fs.length * 4 → (fcl fs cs)[i]? = some u → w.cell? ⟨g, 0 + i, none⟩ = some u := by
      intro i u hi hu
      rw [Nat.zero_add]
      exact q2 i _ (by rw [List.getElem?_append_left (by rw [fcl_len h.1]; exact hi)]; exact hu)
    exact ⟨a, c, hz _ _ (by omega) c0, by have := hz _ _ (by omega) c1; rwa [← Nat.add_assoc] at this, by have := hz _ _ (by omega) c2; rwa [← Nat.add_assoc] at this, by have := hz _ _ (by omega) c3; rwa [← Nat.add_assoc] at this, hb⟩
/-- an append of a walk, by what it does -/
theorem app_st {ops : Array Oper} {rest : List Oper} {o : Oper} {ac : Go.Act} {w : World} {Q : Exit → Go.Act → World → Prop} (hgd : o.guard = none) (sx xx : Operand) (T T' : TypeId)
    (ho : o.op = .call { callee := .builtin .append, args := #[sx, xx], argTypes := #[T, T'] }) {v u v' : Value} {w' : World} (hs : ac.eval sx = v) (hxx : ac.eval xx = u)
    (hr : (Builtin.append_ #[T, T'] o.type #[v, u]).run Tryd.prog w = .ok v' w') (h : wpList Tryd.prog ops Q rest (ac.put o.dst v') w') : wpList Tryd.prog ops Q (o :: rest) ac w :=
  wpList_plain hgd fun _ hK' => by
    unfold Oper.wp execOp
    simp only [ho, resolve, invoke, builtin, Sem.run_bind, Sem.run_pure, Result.andThen_ok, List.map_toArray, List.map_cons, List.map_nil, hs, hxx, hr]
    exact hK' _ _ h
theorem info_bs : (Tryd.prog.info? 22).map (fun i => (i.zero, i.size, i.bytes)) = some (some (.slice none 0 0), 1, 24) := by kernel_rfl
theorem info_in : (Tryd.prog.info? 61).map (fun i => (i.zero, i.size, i.bytes)) = some (some (.agg #[.int .i64 0, .int .i64 0]), 2, 16) := by kernel_rfl
theorem info_fnX : (Tryd.prog.info? 40).map (fun i => (i.zero, i.size, i.bytes)) = some (some (.agg #[.int .i64 0, .int .i64 0, .int .i64 0, .slice none 0 0]), 4, 48) := by kernel_rfl
theorem bvs_one {t : List Int} : ∀ u ∈ bvs t, u.oneCell' = true := by
  intro u hu; unfold bvs at hu; obtain ⟨y, _, rfl⟩ := List.mem_map.1 hu; rfl
theorem by_src {w : World} {B : Nat} {p : Option Addr} {t : List Int} {n : Nat} (h : ByIn w B p t) (hn : t.length = n) : n = 0 ∨ ∃ vb off, p = some ⟨vb, off, none⟩ ∧ ∀ (j : Nat) u, (bvs t)[j]? = some u → w.cell? ⟨vb, off + j, none⟩ = some u := by
  rcases h.2 with rfl | ⟨g, off, rfl, hg, hc⟩
  · exact .inl hn.symm
  · refine .inr ⟨g, off, rfl, fun j u hj => ?_⟩
    unfold bvs at hj
    rw [List.getElem?_map] at hj
    obtain ⟨y, hy1, rfl⟩ := Option.map_eq_some_iff.1 hj
    exact hc j y hy1
theorem in_src {w : World} {B : Nat} {p : Option Addr} {l : List (Int × Int)} {n : Nat} (h : InIn w B p l) (hn : l.length = n) : n = 0 ∨ ∃ vb off, p = some ⟨vb, off, none⟩ ∧ ∀ (j : Nat) u, (icl l)[j]? = some u → w.cell? ⟨vb, off + j, none⟩ = some u := by
  rcases h with rfl | ⟨g, off, rfl, hg, hc⟩
  · exact .inl hn.symm
  · refine .inr ⟨g, off, rfl, fun j u hj => ?_⟩
    obtain ⟨k, x, h1, ⟨rfl, rfl⟩ | ⟨rfl, rfl⟩⟩ := icl_back hj
    · exact (hc k x h1).1
    · rw [← Nat.add_assoc]; exact (hc k x h1).2
theorem bl_src {w : World} {g : Nat} {ys : List Value} {T : TypeId} (h : Bl w g ys.toArray T) (m : Nat) : m = 0 ∨ ∃ vb off, (some ⟨g, 0, none⟩ : Option Addr) = some ⟨vb, off, none⟩ ∧ ∀ (j : Nat) u, ys[j]? = some u → w.cell? ⟨vb, off + j, none⟩ = some u :=
  .inr ⟨g, 0, rfl, fun j u hj => by rw [Nat.zero_add]; exact h.cell (by simpa using hj)⟩
/-- a slice from the first place on -/
theorem slice_to2 {T E : TypeId} {z : Value} {sz by_ : Nat} (hT : Tryd.prog.underlying T = some (.slice (Tryd.prog.elem T))) (hE : Tryd.prog.elem T = E) (hinf : (Tryd.prog.info? E).map (fun i => (i.zero, i.size, i.bytes)) = some (some z, sz, by_)) (g K cap n : Nat) (h : n ≤ cap) (W : World) : (Instr.sliceAt T (.slice (some ⟨g, 0, none⟩) K cap) none (some (.int .i64 (n : Int))) none).run Tryd.prog W = .ok (.slice (some ⟨g, 0, none⟩) n cap) W := by
  obtain ⟨i0, hi, hz0, hz1, hz2⟩ := info_p hinf
  have key : (Instr.sliceAt T (.slice (some ⟨g, 0, none⟩) K cap) none (some (.int .i64 (n : Int))) none).run Tryd.prog W = .ok (sliced (some ⟨g, 0, none⟩) 0 n cap sz) W := by
    rw [run_sliceAt_slice W _ _ _ _ _ hT, run_slice_h W _ _ _ _ hT _ _ (by omega) (by omega), hE]
    simp [sizeOf, typeInfo, hi, hz1, Result.andThen]
  rw [key]
  unfold sliced
  by_cases hc : cap = 0
  · simp [hc]
  · simp [hc, Addr.add_lit]
end Go.Proofs.YtapjfokkcgdhhaaDoor
