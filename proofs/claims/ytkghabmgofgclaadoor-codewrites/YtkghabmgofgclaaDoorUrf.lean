/- the law: a sample, alive -/
import Derived.Test.YtkghabmgofgclaaDoorUre
namespace Go.Proofs.YtkghabmgofgclaaDoor
open Go.RowKit
set_option linter.unusedVariables false
set_option linter.unusedSimpArgs false

theorem ByIn.own {w : World} {base : Nat} {A' : Option Addr} {n C' hi : Nat} {t : List Int} (hB : Byt t) (h : w.ownsRow base 5 1 (.slice A' n C') n (bvs t)) (hq : ∀ q, (Value.slice A' n C').ownBlock = some q → q < hi) : ByIn w hi A' t := by
  refine ⟨hB, ?_⟩
  rcases h.2 with ⟨e, h0⟩ | ⟨g, cap, cur, e, h1, h2, h3, h4, h5, h6⟩
  · left
    have := h.1
    rw [bvs_len, h0] at this
    exact List.eq_nil_of_length_eq_zero (by simpa using this)
  · right
    cases e
    refine ⟨g, 0, rfl, hq g rfl, fun j x hj => ?_⟩
    have hl := h.1
    rw [bvs_len] at hl
    have hj' := (List.getElem?_eq_some_iff.1 hj).1
    have e8 : (cur.toList.take (n * 1))[j]? = (bvs t)[j]? := by rw [h6]
    unfold bvs at e8
    rw [List.getElem?_take, if_pos (by omega), List.getElem?_map, hj] at e8
    have : cur[j]? = some (.int .u8 x) := by simpa using e8
    rw [Nat.zero_add]
    exact Bl.cell h2 this
theorem TR.tx {w : World} {g hi m : Nat} {ts : List (List Int)} (h : TR w g hi m ts) (hg : g < hi) : TxIn w hi (some ⟨g, 0, none⟩) ts := by
  obtain ⟨cs, h1, h2, h3⟩ := h
  refine .inr ⟨g, 0, rfl, hg, fun j t hj => ?_⟩
  obtain ⟨hb, A', C', k1, k2, k3⟩ := h3 j t hj
  exact ⟨A', C', by rw [Nat.zero_add]; exact h1.cell k1, ByIn.own hb k2 k3⟩
theorem FR.fn {w : World} {g hi m : Nat} {fs : List (Int × Int × Int × List (Int × Int))} (h : FR w g hi m fs) (hg : g < hi) : FnIn w hi (some ⟨g, 0, none⟩) fs := by
  obtain ⟨cs, h1, h2, h3⟩ := h
  refine .inr ⟨g, 0, rfl, hg, fun j f hj => ?_⟩
  obtain ⟨gc, a1, a2, a3, a4, a5, a6, cd, b1, b2, b3⟩ := h3 j f hj
  refine ⟨_, _, by rw [Nat.zero_add]; exact h1.cell a3, by rw [Nat.zero_add]; exact h1.cell a4, by rw [Nat.zero_add]; exact h1.cell a5, by rw [Nat.zero_add]; exact h1.cell a6, .inr ⟨gc, 0, rfl, a2, fun k x hk => ?_⟩⟩
  obtain ⟨d1, d2⟩ := b3 k x hk
  exact ⟨by rw [Nat.zero_add]; exact b1.cell d1, by rw [Nat.zero_add]; exact b1.cell d2⟩
theorem TxIn.up {w : World} {B C : Nat} {p : Option Addr} {ts : List (List Int)} (h : TxIn w B p ts) (hc : B ≤ C) : TxIn w C p ts := by
  rcases h with h | ⟨g, off, h1, h2, h3⟩
  · exact .inl h
  · refine .inr ⟨g, off, h1, by omega, fun j t hj => ?_⟩
    obtain ⟨pj, cj, c1, hb, c2⟩ := h3 j t hj
    refine ⟨pj, cj, c1, hb, ?_⟩
    rcases c2 with c2 | ⟨g2, o2, q1, q2, q3⟩
    · exact .inl c2
    · exact .inr ⟨g2, o2, q1, by omega, q3⟩
theorem FnIn.up {w : World} {B C : Nat} {p : Option Addr} {fs : List (Int × Int × Int × List (Int × Int))} (h : FnIn w B p fs) (hc : B ≤ C) : FnIn w C p fs := by
  rcases h with h | ⟨g, off, h1, h2, h3⟩
  · exact .inl h
  · refine .inr ⟨g, off, h1, by omega, fun j t hj => ?_⟩
    obtain ⟨pj, cj, c1, c2, c3, c4, c5⟩ := h3 j t hj
    refine ⟨pj, cj, c1, c2, c3, c4, ?_⟩
    rcases c5 with c5 | ⟨g2, o2, q1, q2, q3⟩
    · exact .inl c5
    · exact .inr ⟨g2, o2, q1, by omega, q3⟩
theorem ByIn.up {w : World} {B C : Nat} {p : Option Addr} {t : List Int} (h : ByIn w B p t) (hc : B ≤ C) : ByIn w C p t := by
  refine ⟨h.1, ?_⟩
  rcases h.2 with c5 | ⟨g2, o2, q1, q2, q3⟩
  · exact .inl c5
  · exact .inr ⟨g2, o2, q1, by omega, q3⟩
theorem PrAt.tx {w : World} {lo gt gf : Nat} {ts : List (List Int)} {fs : List (Int × Int × Int × List (Int × Int))} (h : PrAt w lo gt gf ts fs) : TxIn w w.heap.size (some ⟨gt, 0, none⟩) ts := (h.2.2.1.tx h.2.1).up (Nat.le_of_lt h.2.2.2.lt)
theorem PrAt.fn {w : World} {lo gt gf : Nat} {ts : List (List Int)} {fs : List (Int × Int × Int × List (Int × Int))} (h : PrAt w lo gt gf ts fs) : FnIn w w.heap.size (some ⟨gf, 0, none⟩) fs := h.2.2.2.fn h.2.2.2.lt
/-- the sample -/
def smT : List (List Int) := [[104, 105]]
def smF : List (Int × Int × Int × List (Int × Int)) := [(0, 2, 0, [(1, -300), (5, -2), (6, 1), (19, 0)])]
theorem sm_ok : okP (1, smT, smF) := by
  refine ⟨by decide, by decide, ?_, by decide, ?_⟩
  · intro t ht; simp [smT] at ht; subst ht; unfold okT; decide
  · intro f hf
    simp [smF] at hf
    subst hf
    refine ⟨by decide, by decide, by decide, by decide, ?_⟩
    intro x hx
    simp at hx
    rcases hx with rfl | rfl | rfl | rfl <;> (unfold okI opS; simp)
theorem sm_len : 20 < (encP (1, smT, smF)).length ∧ (encP (1, smT, smF)).length ≤ 100 := by
  have z1 : zig (-300) = 599 := by decide
  have n1 : numB 599 = [215, 4] := by rw [numB_ge (by decide), numB_lt (by decide)]; rfl
  have l8 : (le8 (-2)).length = 8 := by unfold le8; simp
  simp [encP, smT, smF, encT, encF, encI, opB, opS, numB_lt, z1, n1, l8]
theorem sm_mi : ∀ f ∈ smF, MI f.2.2.2 := by
  intro f hf
  simp [smF] at hf
  subst hf
  intro x hx
  simp at hx
  rcases hx with rfl | rfl | rfl | rfl <;> simp
/-- what sample leaves -/
def SpQ (w : World) (e : Ending) (w' : World) : Prop := Out 0 0 w w' ∧ ∃ g1 g2, e = .returned (.agg #[.int .i64 1, .slice (some ⟨g1, 0, none⟩) 1 1, .slice (some ⟨g2, 0, none⟩) 1 1]) ∧ TxIn w' w'.heap.size (some ⟨g1, 0, none⟩) smT ∧ FnIn w' w'.heap.size (some ⟨g2, 0, none⟩) smF
set_option maxRecDepth 100000 in
set_option maxHeartbeats 1000000 in
theorem sample_any (w : World) : Calls Tryd.prog 18 #[] w fun e w' => SpQ w e w' := by
  have hcv := Go.Joins.run_convert_bytes_const_at (P := Tryd.prog) (w.alloc (.cells #[.int .i64 0, .slice none 0 0, .slice none 0 0] 25)) 33 5 #[.int .u8 104, .int .u8 105] 2 2 (w.heap.size + 1) (size_alloc _ _).symm Tryd.underlying33 Tryd.underlying5
  go_enter Tryd.func18, Tryd.ntmps18
  go_wp2
  have o1 := fun (v : World) (x : Obj) => (Out.refl 0 0 v).alloc x
  refine ret_cell Tryd.results18 rfl rfl (load_pr ((((((Bl.new w _ _).alloc _).alloc _).alloc _).alloc _))) ⟨((((((Out.refl 0 0 w).alloc _).alloc _).alloc _).alloc _).alloc _), w.heap.size + 1 + 1, w.heap.size + 1 + 1 + 1 + 1, rfl, ?_, ?_⟩
  · refine .inr ⟨w.heap.size + 1 + 1, 0, rfl, by simp only [size_alloc]; omega, fun j t hj => ?_⟩
    match j, hj with
    | 0, hj =>
      cases hj
      refine ⟨some ⟨w.heap.size + 1, 0, none⟩, 2, ?_, ?_, .inr ⟨w.heap.size + 1, 0, rfl, by simp only [size_alloc]; omega, fun k x hk => ?_⟩⟩
      · have q := (Bl.new ((w.alloc (.cells #[.int .i64 1, .slice (some ⟨w.heap.size + 1 + 1, 0, none⟩) 1 1, .slice (some ⟨w.heap.size + 1 + 1 + 1 + 1, 0, none⟩) 1 1] 25)).alloc (.cells #[.int .u8 104, .int .u8 105] 5 (2, 3))) #[.slice (some ⟨w.heap.size + 1, 0, none⟩) 2 2] 33)
        simp only [size_alloc] at q
        exact ((q.alloc _).alloc _).cell (i := 0) rfl
      · intro b hb; simp at hb; omega
      · have q : ∀ (i : Nat) v, (#[Value.int .u8 104, .int .u8 105] : Array Value)[i]? = some v → ((w.alloc (.cells #[.int .i64 1, .slice (some ⟨w.heap.size + 1 + 1, 0, none⟩) 1 1, .slice (some ⟨w.heap.size + 1 + 1 + 1 + 1, 0, none⟩) 1 1] 25)).alloc (.cells #[.int .u8 104, .int .u8 105] 5 (2, 3))).cell? ⟨w.heap.size + 1, i, none⟩ = some v := fun i v hv => by
          rw [Go.Joins.cell_alloc_mark_at _ _ _ _ _ _ (size_alloc _ _).symm]; exact hv
        refine cell0 (cell0 (cell0 (q (0 + k) _ ?_) (o1 _ _)) (o1 _ _)) (o1 _ _)
        match k, hk with
        | 0, hk => cases hk; rfl
        | 1, hk => cases hk; rfl
        | k + 2, hk => simp at hk
    | j + 1, hj => simp [smT] at hj
  · refine .inr ⟨w.heap.size + 1 + 1 + 1 + 1, 0, rfl, by simp only [size_alloc]; omega, fun j f hj => ?_⟩
    match j, hj with
    | 0, hj =>
      cases hj
      have q := Bl.new ((((w.alloc (.cells #[.int .i64 1, .slice (some ⟨w.heap.size + 1 + 1, 0, none⟩) 1 1, .slice (some ⟨w.heap.size + 1 + 1 + 1 + 1, 0, none⟩) 1 1] 25)).alloc (.cells #[.int .u8 104, .int .u8 105] 5 (2, 3))).alloc (.cells #[.slice (some ⟨w.heap.size + 1, 0, none⟩) 2 2] 33)).alloc (.cells #[.int .i64 1, .int .i64 (-300), .int .i64 5, .int .i64 (-2), .int .i64 6, .int .i64 1, .int .i64 19, .int .i64 0] 61)) #[.int .i64 0, .int .i64 2, .int .i64 0, .slice (some ⟨w.heap.size + 1 + 1 + 1, 0, none⟩) 4 4] 41
      simp only [size_alloc] at q
      have q2 := (Bl.new (((w.alloc (.cells #[.int .i64 1, .slice (some ⟨w.heap.size + 1 + 1, 0, none⟩) 1 1, .slice (some ⟨w.heap.size + 1 + 1 + 1 + 1, 0, none⟩) 1 1] 25)).alloc (.cells #[.int .u8 104, .int .u8 105] 5 (2, 3))).alloc (.cells #[.slice (some ⟨w.heap.size + 1, 0, none⟩) 2 2] 33)) #[.int .i64 1, .int .i64 (-300), .int .i64 5, .int .i64 (-2), .int .i64 6, .int .i64 1, .int .i64 19, .int .i64 0] 61).alloc (.cells #[.int .i64 0, .int .i64 2, .int .i64 0, .slice (some ⟨w.heap.size + 1 + 1 + 1, 0, none⟩) 4 4] 41)
      simp only [size_alloc] at q2
      refine ⟨some ⟨w.heap.size + 1 + 1 + 1, 0, none⟩, 4, q.cell (i := 0) rfl, q.cell (i := 1) rfl, q.cell (i := 2) rfl, q.cell (i := 3) rfl, .inr ⟨w.heap.size + 1 + 1 + 1, 0, rfl, by simp only [size_alloc]; omega, fun k x hk => ?_⟩⟩
      match k, hk with
      | 0, hk => cases hk; exact ⟨q2.cell (i := 0) rfl, q2.cell (i := 1) rfl⟩
      | 1, hk => cases hk; exact ⟨q2.cell (i := 2) rfl, q2.cell (i := 3) rfl⟩
      | 2, hk => cases hk; exact ⟨q2.cell (i := 4) rfl, q2.cell (i := 5) rfl⟩
      | 3, hk => cases hk; exact ⟨q2.cell (i := 6) rfl, q2.cell (i := 7) rfl⟩
      | k + 4, hk => simp at hk
    | j + 1, hj => simp [smF] at hj
end Go.Proofs.YtkghabmgofgclaaDoor
