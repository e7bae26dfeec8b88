/- the law CodeLimits: can, shape by shape; rows that grow -/
import Derived.Test.YthijkfcobkdihaaDoorLmb
namespace Go.Proofs.YthijkfcobkdihaaDoor
open Go.RowKit
set_option linter.unusedVariables false
set_option linter.unusedSimpArgs false

theorem can_A {W : World} {g : Nat} (hT : Ty W) (h1 : Bl W g oneC 31) (x : Int) {b : Bool} (hb : (wrE (x, [], oneL) == 0) = b) :
    Calls Tryd.prog 12 #[.agg #[.int .i64 x, .slice none 0 0, .slice (some ⟨g, 0, none⟩) 1 1]] W fun e w' => e = .returned (.bool b) ∧ Out 0 0 W w' :=
  can_any hT x [] oneL none (some ⟨g, 0, none⟩) 0 0 1 1 rfl rfl (.inl rfl) (one_at h1) mi_oneL hb
theorem can_T {W : World} {g : Nat} (hT : Ty W) (h1 : Bl W g oneC 31) (m : Nat) {b : Bool} (hb : (wrE (0, List.replicate m [], oneL) == 0) = b) :
    Calls Tryd.prog 12 #[.agg #[.int .i64 0, .slice (some ⟨W.heap.size, 0, none⟩) m m, .slice (some ⟨g, 0, none⟩) 1 1]] (W.alloc (.cells (madeCells #[.slice none 0 0] m) 23)) fun e w' => e = .returned (.bool b) ∧ Out 0 0 W w' := by
  have o : Out 0 0 W (W.alloc (.cells (madeCells #[.slice none 0 0] m) 23)) := (Out.refl 0 0 W).alloc _
  exact (can_any (hT.out o (.inr rfl)) 0 (List.replicate m []) oneL _ _ m m 1 1 List.length_replicate rfl (tx_made (Bl.new _ _ _)) (one_at (h1.kept o (.inr (Nat.zero_le _)))) mi_oneL hb).mono fun e w' h => ⟨h.1, o.trans h.2⟩
theorem can_B {W : World} {g : Nat} (hT : Ty W) (h1 : Bl W g oneC 31) (m : Nat) {b : Bool} (hb : (wrE (0, [zL m], oneL) == 0) = b) :
    Calls Tryd.prog 12 #[.agg #[.int .i64 0, .slice (some ⟨W.heap.size + 1, 0, none⟩) 1 1, .slice (some ⟨g, 0, none⟩) 1 1]] ((W.alloc (.cells (madeCells #[.int .u8 0] m) 5)).alloc (.cells #[.slice (some ⟨W.heap.size, 0, none⟩) m m] 23)) fun e w' => e = .returned (.bool b) ∧ Out 0 0 W w' := by
  have o : Out 0 0 W ((W.alloc (.cells (madeCells #[.int .u8 0] m) 5)).alloc (.cells #[.slice (some ⟨W.heap.size, 0, none⟩) m m] 23)) := ((Out.refl 0 0 W).alloc _).alloc _
  have b2 := Bl.new (W.alloc (.cells (madeCells #[.int .u8 0] m) 5)) #[.slice (some ⟨W.heap.size, 0, none⟩) m m] 23
  rw [size_alloc] at b2
  exact (can_any (hT.out o (.inr rfl)) 0 [zL m] oneL _ _ 1 1 1 1 rfl rfl (tx_sing ((Bl.new _ _ _).alloc _) b2) (one_at (h1.kept o (.inr (Nat.zero_le _)))) mi_oneL hb).mono fun e w' h => ⟨h.1, o.trans h.2⟩
theorem can_F {W : World} (hT : Ty W) (m : Nat) {b : Bool} (hb : (wrE (0, [], List.replicate m (0, 0, 0, [])) == 0) = b) :
    Calls Tryd.prog 12 #[.agg #[.int .i64 0, .slice none 0 0, .slice (some ⟨W.heap.size, 0, none⟩) m m]] (W.alloc (.cells (madeCells #[.int .i64 0, .int .i64 0, .int .i64 0, .slice none 0 0] (m * 4)) 31)) fun e w' => e = .returned (.bool b) ∧ Out 0 0 W w' := by
  have o : Out 0 0 W (W.alloc (.cells (madeCells #[.int .i64 0, .int .i64 0, .int .i64 0, .slice none 0 0] (m * 4)) 31)) := (Out.refl 0 0 W).alloc _
  exact (can_any (hT.out o (.inr rfl)) 0 [] (List.replicate m (0, 0, 0, [])) _ _ 0 0 m m rfl List.length_replicate (.inl rfl) (fn_made (Bl.new _ _ _)) (by intro f hf; rw [List.eq_of_mem_replicate hf]; exact mi_nil) hb).mono fun e w' h => ⟨h.1, o.trans h.2⟩
theorem can_E {W : World} (hT : Ty W) : Calls Tryd.prog 12 #[.agg #[.int .i64 0, .slice none 0 0, .slice none 0 0]] W fun e w' => e = .returned (.bool false) ∧ Out 0 0 W w' :=
  can_any hT 0 [] [] none none 0 0 0 0 rfl rfl (.inl rfl) (.inl rfl) (by intro f hf; cases hf) n6
theorem can_P {W : World} (hT : Ty W) (P L C : Int) {b : Bool} (hb : (wrE (0, [], [(P, L, C, [])]) == 0) = b) :
    Calls Tryd.prog 12 #[.agg #[.int .i64 0, .slice none 0 0, .slice (some ⟨W.heap.size, 0, none⟩) 1 1]] (W.alloc (.cells #[.int .i64 P, .int .i64 L, .int .i64 C, .slice none 0 0] 31)) fun e w' => e = .returned (.bool b) ∧ Out 0 0 W w' := by
  have o : Out 0 0 W (W.alloc (.cells #[.int .i64 P, .int .i64 L, .int .i64 C, .slice none 0 0] 31)) := (Out.refl 0 0 W).alloc _
  exact (can_any (hT.out o (.inr rfl)) 0 [] [(P, L, C, [])] _ _ 0 0 1 1 rfl rfl (.inl rfl) (fn_at (cd := []) (Bl.new _ _ _) rfl (.inl rfl)) (mi_one mi_nil) hb).mono fun e w' h => ⟨h.1, o.trans h.2⟩
theorem can_I {W : World} (hT : Ty W) (op a : Int) (hm : (-9223372036854775808 ≤ op ∧ op ≤ 9223372036854775807) ∧ -9223372036854775808 ≤ a ∧ a ≤ 9223372036854775807) {b : Bool} (hb : (wrE (0, [], [(0, 0, 0, [(op, a)])]) == 0) = b) :
    Calls Tryd.prog 12 #[.agg #[.int .i64 0, .slice none 0 0, .slice (some ⟨W.heap.size + 1, 0, none⟩) 1 1]] ((W.alloc (.cells #[.int .i64 op, .int .i64 a] 28)).alloc (.cells #[.int .i64 0, .int .i64 0, .int .i64 0, .slice (some ⟨W.heap.size, 0, none⟩) 1 1] 31)) fun e w' => e = .returned (.bool b) ∧ Out 0 0 W w' := by
  have o : Out 0 0 W ((W.alloc (.cells #[.int .i64 op, .int .i64 a] 28)).alloc (.cells #[.int .i64 0, .int .i64 0, .int .i64 0, .slice (some ⟨W.heap.size, 0, none⟩) 1 1] 31)) := ((Out.refl 0 0 W).alloc _).alloc _
  have b2 := Bl.new (W.alloc (.cells #[.int .i64 op, .int .i64 a] 28)) #[.int .i64 0, .int .i64 0, .int .i64 0, .slice (some ⟨W.heap.size, 0, none⟩) 1 1] 31
  rw [size_alloc] at b2
  exact (can_any (hT.out o (.inr rfl)) 0 [] [(0, 0, 0, [(op, a)])] _ _ 0 0 1 1 rfl rfl (.inl rfl) (fn_at b2 rfl (in_sing ((Bl.new _ _ _).alloc _))) (mi_one (by intro x hx; rw [List.mem_singleton.1 hx]; exact hm)) hb).mono fun e w' h => ⟨h.1, o.trans h.2⟩
/-- a function with a code that lies somewhere -/
theorem can_C {W : World} (hT : Ty W) {n c : Nat} {pa : Option Addr} {cd : List (Int × Int)} (hn : cd.length = n) (hc : InIn W W.heap.size pa cd) (hm : MI cd) {b : Bool} (hb : (wrE (0, [], [(0, 0, 0, cd)]) == 0) = b) :
    Calls Tryd.prog 12 #[.agg #[.int .i64 0, .slice none 0 0, .slice (some ⟨W.heap.size, 0, none⟩) 1 1]] (W.alloc (.cells #[.int .i64 0, .int .i64 0, .int .i64 0, .slice pa n c] 31)) fun e w' => e = .returned (.bool b) ∧ Out 0 0 W w' := by
  have o : Out 0 0 W (W.alloc (.cells #[.int .i64 0, .int .i64 0, .int .i64 0, .slice pa n c] 31)) := (Out.refl 0 0 W).alloc _
  have hc2 : InIn (W.alloc (.cells #[.int .i64 0, .int .i64 0, .int .i64 0, .slice pa n c] 31)) (W.alloc (.cells #[.int .i64 0, .int .i64 0, .int .i64 0, .slice pa n c] 31)).heap.size pa cd := by
    have h := hc.kept (C := W.heap.size) (Lo.of_out o) (Nat.le_refl _)
    rcases h with h | ⟨g, off, z1, z2, z3⟩
    · exact .inl h
    · exact .inr ⟨g, off, z1, by have := o.size; omega, z3⟩
  exact (can_any (hT.out o (.inr rfl)) 0 [] [(0, 0, 0, cd)] _ _ 0 0 1 1 rfl rfl (.inl rfl) (fn_at (Bl.new _ _ _) hn hc2) (mi_one hm) hb).mono fun e w' h => ⟨h.1, o.trans h.2⟩
/-- instructions as cells -/
def icl : List (Int × Int) → List Value
  | [] => []
  | x :: l => .int .i64 x.1 :: .int .i64 x.2 :: icl l
theorem icl_at : ∀ {l : List (Int × Int)} {j : Nat} {x : Int × Int}, l[j]? = some x → (icl l)[j * 2]? = some (.int .i64 x.1) ∧ (icl l)[j * 2 + 1]? = some (.int .i64 x.2)
  | [], j, x, h => by simp at h
  | y :: l, 0, x, h => by
    simp at h
    subst h
    exact ⟨rfl, rfl⟩
  | y :: l, j + 1, x, h => by
    have := icl_at (l := l) (j := j) (x := x) (by simpa using h)
    rw [show (j + 1) * 2 = j * 2 + 1 + 1 by omega]
    exact this
theorem icl_len : ∀ (l : List (Int × Int)), (icl l).length = l.length * 2
  | [] => rfl
  | x :: l => by simp only [icl, List.length_cons, icl_len l]; omega
theorem icl_app : ∀ (l m : List (Int × Int)), icl (l ++ m) = icl l ++ icl m
  | [], m => rfl
  | x :: l, m => by simp only [List.cons_append, icl, icl_app l m]
theorem icl_one : ∀ {l : List (Int × Int)}, ∀ u ∈ icl l, u.oneCell' = true
  | [], u, h => by cases h
  | x :: l, u, h => by
    simp only [icl, List.mem_cons] at h
    rcases h with rfl | rfl | h
    · rfl
    · rfl
    · exact icl_one u h
/-- some things more in a row of one's own -/
theorem app_rows {T E : TypeId} {z : Value} {sz by_ : Nat} (hT : Tryd.prog.underlying T = some (.slice E)) (hinf : (Tryd.prog.info? E).map (fun i => (i.zero, i.size, i.bytes)) = some (some z, sz, by_)) (hz : z.cells.size = sz) (hsz : 0 < sz) (hby : by_ ≤ 1000) {w : World} {base K cap vb m c : Nat} {ta : Option Addr} {xs ys : List Value} (hown : w.ownsRow base E sz (.slice ta K cap) K xs) (hbase : base ≤ w.heap.size) (hv : ∀ (j : Nat) u, ys[j]? = some u → w.cell? ⟨vb, j, none⟩ = some u) (hl : ys.length = m * sz) (h1 : ∀ u ∈ ys, u.oneCell' = true) (hK : K ≤ 100000) (hm : 0 < m) (hm2 : m ≤ 10000) (ty : TypeId) :
    ∃ a' cap' w', (Builtin.append_ #[T, T] ty #[.slice ta K cap, .slice (some ⟨vb, 0, none⟩) m c]).run Tryd.prog w = .ok (.slice a' (K + m) cap') w' ∧ w'.ownsRow base E sz (.slice a' (K + m) cap') (K + m) (xs ++ ys) ∧ Fx (fun k => (Value.slice ta K cap).ownBlock = some k) w w' ∧
      ((Value.slice a' (K + m) cap').ownBlock = (Value.slice ta K cap).ownBlock ∨ (Value.slice a' (K + m) cap').ownBlock = some w.heap.size) := by
  obtain ⟨i0, hi0, hz0, hz1, hz2⟩ := info_p hinf
  obtain ⟨g4, cap', w', hrun, hown', hgrow, hat, _⟩ := run_append_lies (P := Tryd.prog) w T ty base E i0 z sz by_ hT hi0 hz0 hz1 hz2 hz hsz (.slice ta K cap) K xs hown ⟨vb, 0, none⟩ m c ys (by rw [hl]) (by
      intro j u hj
      rw [Addr.add_lit, Nat.zero_add]
      exact hv j u hj) h1 hm (by unfold maxLen; omega) (by
      have : (K + m) * by_ ≤ 110000 * 1000 := Nat.mul_le_mul (by omega) hby
      omega) hbase w.heap.size rfl
  refine ⟨some ⟨g4, 0, none⟩, cap', w', hrun, hown', ⟨hgrow.os, hgrow.tape, hgrow.output, hgrow.size, fun k h1 h2 => hgrow.block k h1 (fun e => h2 e.symm)⟩, ?_⟩
  rcases hat with h | h
  · exact .inl h.symm
  · exact .inr (by rw [h]; rfl)
theorem in_own {w : World} {base K cap : Nat} {ta : Option Addr} {l : List (Int × Int)} (h : w.ownsRow base 28 2 (.slice ta K cap) K (icl l)) : l.length = K ∧ InIn w w.heap.size ta l := by
  have h0 := h.1
  rw [icl_len] at h0
  refine ⟨by omega, ?_⟩
  rcases h.2 with ⟨h1, h2⟩ | ⟨g, c, cur, h1, h2, h3, h4, h5, h6, h7⟩
  · exact .inl (List.eq_nil_of_length_eq_zero (by omega))
  · cases h1
    have B : Bl w g cur 28 := h3
    refine .inr ⟨g, 0, rfl, B.lt, fun j x hj => ?_⟩
    have hlt := (List.getElem?_eq_some_iff.1 hj).1
    obtain ⟨c1, c2⟩ := icl_at hj
    rw [← h7] at c1 c2
    rw [List.getElem?_take_of_lt (by omega)] at c1 c2
    rw [Nat.zero_add]
    exact ⟨B.cell (by simpa using c1), B.cell (by simpa using c2)⟩
/-- the cells of a row of one's own -/
theorem own_cell {w : World} {base K cap sz : Nat} {E : TypeId} {ta : Option Addr} {xs : List Value} (h : w.ownsRow base E sz (.slice ta K cap) K xs) (hK : 0 < K) : ∃ g, ta = some ⟨g, 0, none⟩ ∧ base ≤ g ∧ (∀ (j : Nat) u, xs[j]? = some u → w.cell? ⟨g, j, none⟩ = some u) ∧ ∃ cur, w.heap[g]? = some (.cells cur E (0, 0)) := by
  rcases h.2 with ⟨_, h0⟩ | ⟨g, c, cur, h1, h2, h3, h4, h5, h6, h7⟩
  · omega
  · cases h1
    have B : Bl w g cur E := h3
    refine ⟨g, rfl, h2, fun j u hj => ?_, cur, h3⟩
    rw [← h7] at hj
    have hlt := (List.getElem?_eq_some_iff.1 hj).1
    rw [List.length_take] at hlt
    rw [List.getElem?_take_of_lt (by omega)] at hj
    exact B.cell (by simpa using hj)
theorem mi_rep {n : Nat} : MI (List.replicate n (11, 0)) := by
  intro x hx
  rw [List.eq_of_mem_replicate hx]
  simp
end Go.Proofs.YthijkfcobkdihaaDoor
