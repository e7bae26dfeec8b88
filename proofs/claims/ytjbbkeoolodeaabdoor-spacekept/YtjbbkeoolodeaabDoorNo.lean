import Derived.Test.YtjbbkeoolodeaabDoorNi
import Derived.Test.YtjbbkeoolodeaabDoorNf
import Derived.Maps.AppendAt
namespace Go.Proofs.YtjbbkeoolodeaabDoor
open Go.RowKit
set_option linter.unusedVariables false
set_option linter.unusedSimpArgs false

/-- the free blocks of a class among the first m words -/
def frL (n : Nat) (st : Sp) (c : Int) (m : Nat) : List Int := ((List.range m).filter (fr n st c)).map fun (i : Nat) => (i : Int)
section
variable {n : Nat} {st : Sp} {l : List (Nat × Blk)}
theorem frL_zero (c : Int) : frL n st c 0 = [] := rfl
theorem frL_succ (c : Int) (m : Nat) : frL n st c (m + 1) = if fr n st c m then frL n st c m ++ [(m : Int)] else frL n st c m := by
  unfold frL
  rw [List.range_succ, List.filter_append]
  cases h : fr n st c m <;> simp [h]
theorem frL_skip {c : Int} {m : Nat} : ∀ k, (∀ j, m ≤ j → j < m + k → fr n st c j = false) → frL n st c (m + k) = frL n st c m
  | 0, _ => rfl
  | k + 1, h => by
    rw [← Nat.add_assoc, frL_succ, h (m + k) (by omega) (by omega)]
    exact frL_skip k fun j h1 h2 => h j h1 (by omega)
theorem frL_len (c : Int) : ∀ m, (frL n st c m).length ≤ m
  | 0 => Nat.le_refl _
  | m + 1 => by
    have := frL_len c m
    rw [frL_succ]
    split
    · simp; omega
    · omega
theorem frL_mem {c : Int} {m : Nat} {x : Int} : x ∈ frL n st c m ↔ ∃ j : Nat, j < m ∧ fr n st c j = true ∧ (j : Int) = x := by
  unfold frL
  simp [List.mem_map, List.mem_filter, List.mem_range, and_assoc]
/-- a page of another sort gives none -/
theorem frL_page {c : Int} {p : Nat} (h : st.S p ≠ (1, c, 0)) : frL n st c (64 * (p + 1)) = frL n st c (64 * p) := by
  rw [show 64 * (p + 1) = 64 * p + 64 from by omega]
  refine frL_skip 64 fun j h1 h2 => ?_
  cases hf : fr n st c j with
  | false => rfl
  | true =>
    obtain ⟨_, e, _, _⟩ := fr_iff.1 hf
    rw [show j / 64 = p from by omega] at e
    exact absurd e h
theorem start_at {c : Int} (h0 : 0 ≤ c) (h7 : c ≤ 7) {i : Nat} (hi : (i + 1) * wN c ≤ 64) : startB c (i * wN c) = true := by
  unfold startB
  simp only [Bool.and_eq_true, decide_eq_true_eq]
  refine ⟨Nat.mul_mod_left _ _, ?_⟩
  rw [Nat.add_mul] at hi
  omega
/-- one block of a page of the class -/
theorem frL_block {c : Int} (h0 : 0 ≤ c) (h7 : c ≤ 7) {p i : Nat} (hp : p < n) (hS : st.S p = (1, c, 0)) (hi : (i + 1) * wN c ≤ 64) : frL n st c (64 * p + (i + 1) * wN c) = if hasB (st.O (64 * p + i * wN c)) then frL n st c (64 * p + i * wN c) else frL n st c (64 * p + i * wN c) ++ [((64 * p + i * wN c : Nat) : Int)] := by
  have hw := wN_pos h0 h7
  have hst := start_at h0 h7 hi
  rw [Nat.add_mul] at hi
  obtain ⟨q, hq⟩ : ∃ q, i * wN c = q := ⟨_, rfl⟩
  rw [hq] at hi hst ⊢
  rw [Nat.add_mul, hq, Nat.one_mul, show 64 * p + (q + wN c) = (64 * p + q + 1) + (wN c - 1) from by omega, frL_skip (wN c - 1), frL_succ]
  · have hf : fr n st c (64 * p + q) = !hasB (st.O (64 * p + q)) := by
      unfold fr
      rw [show (64 * p + q) / 64 = p from by omega, show (64 * p + q) % 64 = q from by omega, hS, hst, show decide (64 * p + q < 64 * n) = true from by simp; omega]
      simp
    rw [hf]
    cases hasB (st.O (64 * p + q)) <;> rfl
  · intro j h1 h2
    cases hf : fr n st c j with
    | false => rfl
    | true =>
      obtain ⟨_, _, e, _⟩ := fr_iff.1 hf
      unfold startB at e
      simp only [Bool.and_eq_true, decide_eq_true_eq] at e
      obtain ⟨d, hd⟩ : ∃ d, j = 64 * p + q + d := ⟨j - (64 * p + q), by omega⟩
      subst hd
      rw [show (64 * p + q + d) % 64 = q + d from by omega, ← hq, Nat.mul_comm, Nat.mul_add_mod] at e
      rw [Nat.mod_eq_of_lt (by omega)] at e
      omega
/-- behind a page's last block there is none -/
theorem frL_end {c : Int} (h0 : 0 ≤ c) (h7 : c ≤ 7) {p i : Nat} (hi : ¬(i + 1) * wN c ≤ 64) (hi2 : i * wN c ≤ 64) : frL n st c (64 * (p + 1)) = frL n st c (64 * p + i * wN c) := by
  have hw := wN_pos h0 h7
  rw [Nat.add_mul] at hi
  obtain ⟨q, hq⟩ : ∃ q, i * wN c = q := ⟨_, rfl⟩
  rw [hq] at hi hi2 ⊢
  rw [show 64 * (p + 1) = 64 * p + q + (64 - q) from by omega]
  refine frL_skip _ fun j h1 h2 => ?_
  cases hf : fr n st c j with
  | false => rfl
  | true =>
    obtain ⟨_, _, e, _⟩ := fr_iff.1 hf
    unfold startB at e
    simp only [Bool.and_eq_true, decide_eq_true_eq] at e
    omega
theorem ow_ge (j : Nat) : ∀ m, -1 ≤ owTo l m j
  | 0 => by show (-1 : Int) ≤ -1; omega
  | m + 1 => by
    have := ow_ge j m
    unfold owTo
    split <;> omega
theorem ow_some {j i : Nat} (h : (atB l i).1 ≤ j ∧ j < (atB l i).1 + rmL l i) : ∀ m, i < m → 0 ≤ owTo l m j
  | 0, hi => by omega
  | m + 1, hi => by
    unfold owTo
    split
    · omega
    · next hn =>
      refine ow_some h m ?_
      by_cases e : i = m
      · subst e; exact absurd h hn
      · omega
/-- a block's first word is no one's, just where no object stands there -/
theorem ow_has (hI : Inv n st) (h : ObL st l) {a : Nat} {c : Int} (ha : a < 64 * n) (hS : st.S (a / 64) = (1, c, 0)) (hb : startB c (a % 64) = true) : decide (owTo l l.length a < 0) = !hasB (st.O a) := by
  cases ho : hasB (st.O a) with
  | false =>
    have : owTo l l.length a = -1 := by
      refine ow_none l.length fun i hi hc => ?_
      obtain ⟨e1, e2⟩ := obl_at h hi
      have := free_out hI (fr_iff.2 ⟨ha, hS, hb, ho⟩) e2
      rw [e1] at this
      unfold rmL at hc
      omega
    rw [this]; rfl
  | true =>
    obtain ⟨q, hq, he⟩ := List.mem_map.1 (h.2.2 a ho)
    obtain ⟨i, hi, hqi⟩ := List.getElem_of_mem hq
    have e : atB l i = q := by unfold atB; rw [List.getElem?_eq_getElem hi, hqi]; rfl
    have hr := rm_facts hI h hi
    have := ow_some (l := l) (j := a) (i := i) ⟨by rw [e]; omega, by have := hr.2.2.2; have := hr.1; rw [e, he] at *; omega⟩ l.length hi
    simp; omega
end
/-- eight lists of ints in an array of slices, each in a row of its own from B on -/
def Out8 (w : World) (X B : Nat) (sl : Nat → Value) (L : Nat → List Int) : Prop :=
  Row w X 51 8 sl ∧ X < B ∧ B ≤ w.heap.size ∧ (∀ c, c < 8 → w.ownsRow B 3 1 (sl c) (L c).length (ivs (L c))) ∧ ∀ c d, c < 8 → d < 8 → c ≠ d → ∀ g, (sl c).ownBlock = some g → (sl d).ownBlock ≠ some g
theorem Out8.congr {w : World} {X B : Nat} {sl : Nat → Value} {L L' : Nat → List Int} (h : Out8 w X B sl L) (he : ∀ c, c < 8 → L' c = L c) : Out8 w X B sl L' :=
  ⟨h.1, h.2.1, h.2.2.1, fun c hc => by rw [he c hc]; exact h.2.2.2.1 c hc, h.2.2.2.2⟩
theorem Out8.quiet {w w' : World} {X B : Nat} {sl : Nat → Value} {L : Nat → List Int} (h : Out8 w X B sl L) (o : Out 0 0 w w') : Out8 w' X B sl L :=
  ⟨h.1.kept o (.inr (Nat.zero_le _)), h.2.1, Nat.le_trans h.2.2.1 o.size, fun c hc => ownk (h.2.2.2.1 c hc) o (Nat.zero_le _), h.2.2.2.2⟩
/-- the list c has got one more, its slice is not laid down yet -/
def Grn (w : World) (X B : Nat) (sl : Nat → Value) (L : Nat → List Int) (c : Nat) (v2 : Value) (x : Int) : Prop :=
  Row w X 51 8 sl ∧ X < B ∧ B ≤ w.heap.size ∧ (∀ d, d < 8 → d ≠ c → w.ownsRow B 3 1 (sl d) (L d).length (ivs (L d))) ∧ w.ownsRow B 3 1 v2 (L c ++ [x]).length (ivs (L c ++ [x])) ∧
  (∀ a d, a < 8 → d < 8 → a ≠ d → ∀ g, (sl a).ownBlock = some g → (sl d).ownBlock ≠ some g) ∧ ∀ d, d < 8 → d ≠ c → ∀ g, v2.ownBlock = some g → (sl d).ownBlock ≠ some g
theorem Grn.put {w : World} {X B : Nat} {sl : Nat → Value} {L : Nat → List Int} {c : Nat} {v2 : Value} {x : Int} (h : Grn w X B sl L c v2 x) :
    Out8 (w.setCell ⟨X, c, none⟩ v2) X B (fun j => if j = c then v2 else sl j) (fun j => if j = c then L c ++ [x] else L j) := by
  obtain ⟨h1, h2, h3, h4, h5, h6, h7⟩ := h
  have o : Out X (X + 1) w (w.setCell ⟨X, c, none⟩ v2) := (Out.refl _ _ _).setCell (p := ⟨X, c, none⟩) (.inl ⟨Nat.le_refl _, Nat.lt_succ_self _⟩) _
  refine ⟨h1.set c v2, h2, Nat.le_trans h3 o.size, fun d hd => ?_, fun a d ha hd hne g hg => ?_⟩
  · dsimp only
    by_cases e : d = c
    · rw [if_pos e, if_pos e]; exact ownk h5 o (by omega)
    · rw [if_neg e, if_neg e]; exact ownk (h4 d hd e) o (by omega)
  · dsimp only at hg ⊢
    by_cases e : a = c
    · rw [if_pos e] at hg
      rw [if_neg (by omega)]
      exact h7 d hd (by omega) g hg
    · rw [if_neg e] at hg
      by_cases e2 : d = c
      · rw [if_pos e2]
        intro hv
        exact h7 a ha e g hv hg
      · rw [if_neg e2]
        exact h6 a d ha hd hne g hg
/-- an append to the list c -/
theorem wp_app8 {o : Oper} {a : Go.Act} {w : World} {K : Go.Act → World → Prop} {Q : Exit → Go.Act → World → Prop} (sx xx : Operand)
    (ho : o.op = .call { callee := .builtin .append, args := #[sx, xx], argTypes := #[27, 27] })
    {X B : Nat} {sl : Nat → Value} {L : Nat → List Int} (h8 : Out8 w X B sl L) {c : Nat} (hc : c < 8) (v : Value) (m : Nat) (hv : sl c = v) (hs : a.eval sx = v) (hm : (L c).length = m) (bb : Nat) (hx : a.eval xx = .slice (some ⟨bb, 0, none⟩) 1 1) (x : Int) (hn : w.cell? ⟨bb, 0, none⟩ = some (.int .i64 x))
    (hlen : m ≤ 1000)
    (h : ∀ g cap w', Grn w' X B sl L c (.slice (some ⟨g, 0, none⟩) (m + 1) cap) x → Out B w.heap.size w w' → K (a.put o.dst (.slice (some ⟨g, 0, none⟩) (m + 1) cap)) w') : o.wp Tryd.prog a w K Q := by
  obtain ⟨i1, hi1, hy0, hy1, hy2⟩ := info_parts info_i64
  obtain ⟨h1, h2, h3, h4, h5⟩ := h8
  have hown := h4 c hc
  rw [hv, hm] at hown
  obtain ⟨v2, w', hrun, hown2, hgrow, hnil, hwh⟩ := run_append_own_at (P := Tryd.prog) w B 27 o.type 3 i1 (.int .i64 0) 1 8 Tryd.underlying27 hi1 hy0 hy1 hy2 rfl (by decide) v m (ivs (L c)) hown ⟨bb, 0, none⟩ 1 1 [.int .i64 x] rfl (by intro j u hj; cases j with | zero => simp at hj; subst hj; exact hn | succ j => simp at hj) (by intro u hu; simp at hu; subst hu; rfl) (by unfold maxLen; omega) (by omega) h3
  obtain ⟨g4, cap4, rfl, hg4, _⟩ := hown2.form (by omega)
  have ho2 : Out B w.heap.size w w' := grown_out (base := B) hgrow (fun g hg => (own_block hown g hg).1)
  have hg : Grn w' X B sl L c (.slice (some ⟨g4, 0, none⟩) (m + 1) cap4) x := by
    refine ⟨h1.kept ho2 (.inl h2), h2, Nat.le_trans h3 ho2.size, fun d hd hne => ?_, ?_, h5, fun d hd hne g hg => ?_⟩
    · refine (h4 d hd).kept hgrow ?_
      cases e : (sl d).ownBlock with
      | none => exact .inl rfl
      | some g =>
        right
        intro e2
        exact h5 d c hd hc hne g e (by rw [hv]; exact e2.symm)
    · rw [ivs_app, List.length_append, hm]
      exact hown2
    · rcases hwh with e | e
      · rw [e] at hg
        exact h5 c d hc hd (Ne.symm hne) g (by rw [hv]; exact hg)
      · rw [e] at hg
        cases hg
        intro e2
        have := (own_block (h4 d hd) _ e2).2
        omega
  unfold Oper.wp execOp
  simp only [ho, resolve, invoke, builtin, Sem.run_bind, Sem.run_pure, Result.andThen_ok, List.map_toArray, List.map_cons, List.map_nil, hs, hx, hrun]
  exact h g4 cap4 w' hg ho2
theorem wpList_app8 {ops : Array Oper} {rest : List Oper} {o : Oper} {a : Go.Act} {Q : Exit → Go.Act → World → Prop} {w : World} (hgd : o.guard = none) (sx xx : Operand)
    (ho : o.op = .call { callee := .builtin .append, args := #[sx, xx], argTypes := #[27, 27] })
    {X B : Nat} {sl : Nat → Value} {L : Nat → List Int} (h8 : Out8 w X B sl L) {c : Nat} (hc : c < 8) (v : Value) (m : Nat) (hv : sl c = v) (hs : a.eval sx = v) (hm : (L c).length = m) (bb : Nat) (hx : a.eval xx = .slice (some ⟨bb, 0, none⟩) 1 1) (x : Int) (hn : w.cell? ⟨bb, 0, none⟩ = some (.int .i64 x))
    (hlen : m ≤ 1000)
    (h : ∀ g cap w', Grn w' X B sl L c (.slice (some ⟨g, 0, none⟩) (m + 1) cap) x → Out B w.heap.size w w' → wpList Tryd.prog ops Q rest (a.put o.dst (.slice (some ⟨g, 0, none⟩) (m + 1) cap)) w') : wpList Tryd.prog ops Q (o :: rest) a w :=
  wpList_plain hgd fun _ hK => wp_app8 sx xx ho h8 hc v m hv hs hm bb hx x hn hlen fun g cap w' h2 h3 => hK _ _ (h g cap w' h2 h3)
theorem fP_0 (st : Sp) (p : Nat) : fP st p 0 = (st.S p).1 := by
  unfold fP
  rw [show (p * 3 + 0) / 3 = p from by omega, show (p * 3 + 0) % 3 = 0 from by omega]; rfl
theorem fP_1 (st : Sp) (p : Nat) : fP st p 1 = (st.S p).2.1 := by
  unfold fP
  rw [show (p * 3 + 1) / 3 = p from by omega, show (p * 3 + 1) % 3 = 1 from by omega]; rfl
/-- a dump: where its words and its pages lie -/
theorem dumpF {w : World} {lo hi n cap : Nat} {s : Nat → Nat} {st : Sp} (h : SpAt w lo hi s n cap st) :
    Calls Tryd.prog 16 #[.pointer (some ⟨s 14, 0, none⟩)] w fun e w' => ∃ (o2 : Option Addr) (gw gp c0 c1 c2 : Nat) (h0 h1 h2 h3 h4 h5 h6 h7 : Int), e = .returned (.agg #[.slice (some ⟨gw, 0, none⟩) (64 * n) c0, .slice (some ⟨gp, 0, none⟩) n c1, .slice o2 (objsTo (rawOf n st) (64 * n)).length c2, .int .i64 h0, .int .i64 h1, .int .i64 h2, .int .i64 h3, .int .i64 h4, .int .i64 h5, .int .i64 h6, .int .i64 h7, .int .i64 st.last]) ∧
      w.heap.size ≤ gw ∧ w.heap.size ≤ gp ∧ gw < w'.heap.size ∧ gp < w'.heap.size ∧ (∀ j, j < 64 * n → w'.cell? ⟨gw, j, none⟩ = some (.int .i64 (st.W j))) ∧ (∀ j i, j < n → i < 3 → w'.cell? ⟨gp, j * 3 + i, none⟩ = some (.int .i64 (fP st j i))) ∧ Out 0 0 w w' := by
  have hn := h.2.n1
  refine (dump_any h.1 (told_of st)).mono ?_
  rintro e w' ⟨gw, cw, gp, cp, vb, rfl, ⟨d1, d2, d3, _⟩, ho⟩
  obtain ⟨o2, c2, rfl⟩ := own_form d3
  have e1 : ElAt w' (.slice (some ⟨gw, 0, none⟩) (64 * n) cw) (64 * n) 1 (fW st) := el_of d1 fun j i hj hi => by
    have : i = 0 := by omega
    subst this
    simp [hj, fW, rawOf]
  have d2' : w'.ownsRow w.heap.size 54 3 (.slice (some ⟨gp, 0, none⟩) n cp) n (pgs (pgl st.S n)) := by
    have := d2
    unfold ListIs at this
    rw [pgl_len] at this
    exact this
  have e2 : ElAt w' (.slice (some ⟨gp, 0, none⟩) n cp) n 3 (fP st) := el_of d2' fun j i hj hi => by
    rw [pgs_cell st.S n (by omega)]
    rfl
  have b1 := own_block d1 gw rfl
  have b2 := own_block d2' gp rfl
  refine ⟨o2, gw, gp, cw, cp, c2, _, _, _, _, _, _, _, _, rfl, b1.1, b2.1, b1.2, b2.2, fun j hj => ?_, fun j i hj hi => ?_, ho⟩
  · obtain ⟨o, c, e, f⟩ := e1
    cases e
    obtain ⟨g, eg, f⟩ := f (by omega)
    cases eg
    have := f j 0 hj (by omega)
    simpa [fW] using this
  · obtain ⟨o, c, e, f⟩ := e2
    cases e
    obtain ⟨g, eg, f⟩ := f (by omega)
    cases eg
    exact f j i hj hi
theorem neq_nilSl (W : World) (a : Addr) (n c : Nat) : (binOp .neq 27 (.slice (some a) n c) (.slice none 0 0)).run Tryd.prog W = .ok (.bool true) W := by kernel_rfl
end Go.Proofs.YtjbbkeoolodeaabDoor
namespace Go.Proofs.YtjbbkeoolodeaabDoor
open Go.RowKit
set_option linter.unusedVariables false
set_option linter.unusedSimpArgs false

theorem nil8_at {w : World} {X : Nat} (h : w.heap[X]? = some (.cells #[.slice none 0 0, .slice none 0 0, .slice none 0 0, .slice none 0 0, .slice none 0 0, .slice none 0 0, .slice none 0 0, .slice none 0 0] 51 (0, 0))) : Row w X 51 8 (fun _ => .slice none 0 0) := by
  refine ⟨_, h, by decide, fun j hj => ?_⟩
  have : j = 0 ∨ j = 1 ∨ j = 2 ∨ j = 3 ∨ j = 4 ∨ j = 5 ∨ j = 6 ∨ j = 7 := by omega
  rcases this with rfl | rfl | rfl | rfl | rfl | rfl | rfl | rfl <;> rfl
theorem set8 {w : World} {R : Nat} {T : TypeId} (h : w.heap[R]? = some (.cells #[.slice none 0 0, .slice none 0 0, .slice none 0 0, .slice none 0 0, .slice none 0 0, .slice none 0 0, .slice none 0 0, .slice none 0 0] T (0, 0))) (a0 a1 a2 a3 a4 a5 a6 a7 : Value) : ((((((((w.setCell ⟨R, 0, none⟩ a0).setCell ⟨R, 1, none⟩ a1).setCell ⟨R, 2, none⟩ a2).setCell ⟨R, 3, none⟩ a3).setCell ⟨R, 4, none⟩ a4).setCell ⟨R, 5, none⟩ a5).setCell ⟨R, 6, none⟩ a6).setCell ⟨R, 7, none⟩ a7).heap[R]? = some (.cells #[a0, a1, a2, a3, a4, a5, a6, a7] T (0, 0)) := by
  simp [World.setCell, Array.getElem?_modify, h]
theorem out8s (w : World) (R : Nat) (a0 a1 a2 a3 a4 a5 a6 a7 : Value) : Out R (R + 1) w ((((((((w.setCell ⟨R, 0, none⟩ a0).setCell ⟨R, 1, none⟩ a1).setCell ⟨R, 2, none⟩ a2).setCell ⟨R, 3, none⟩ a3).setCell ⟨R, 4, none⟩ a4).setCell ⟨R, 5, none⟩ a5).setCell ⟨R, 6, none⟩ a6).setCell ⟨R, 7, none⟩ a7) :=
  ((((((((Out.refl R (R + 1) w).setCell (p := ⟨R, 0, none⟩) (.inl ⟨Nat.le_refl _, Nat.lt_succ_self _⟩) _).setCell (p := ⟨R, 1, none⟩) (.inl ⟨Nat.le_refl _, Nat.lt_succ_self _⟩) _).setCell (p := ⟨R, 2, none⟩) (.inl ⟨Nat.le_refl _, Nat.lt_succ_self _⟩) _).setCell (p := ⟨R, 3, none⟩) (.inl ⟨Nat.le_refl _, Nat.lt_succ_self _⟩) _).setCell (p := ⟨R, 4, none⟩) (.inl ⟨Nat.le_refl _, Nat.lt_succ_self _⟩) _).setCell (p := ⟨R, 5, none⟩) (.inl ⟨Nat.le_refl _, Nat.lt_succ_self _⟩) _).setCell (p := ⟨R, 6, none⟩) (.inl ⟨Nat.le_refl _, Nat.lt_succ_self _⟩) _).setCell (p := ⟨R, 7, none⟩) (.inl ⟨Nat.le_refl _, Nat.lt_succ_self _⟩) _
theorem info88 : (Tryd.prog.info? 51).map (·.size) = some 8 := by kernel_rfl
theorem ret88 {fn : Func} {p : Tmp} (hr : fn.results = #[.cell p 51]) {a : Act} {w : World} {g : Nat} {post : Ending → World → Prop} (hp : a.tmps.getD p undef = .pointer (some ⟨g, 0, none⟩))
    (hd : a.defers = []) {cs : Array Value} (hs : cs.size = 8) (b : w.heap[g]? = some (.cells cs 51 (0, 0))) (h : post (.returned (.agg cs)) w) : bodyPost Tryd.prog fn post Exit.ret a w :=
  bodyPost_ret (v := .agg cs) (results_cell_row hr a.tmps w g 51 cs (0, 0) _ hp b Tryd.underlying51 rfl (by rw [hs]; exact info88)) hd h
set_option maxRecDepth 100000 in
set_option maxHeartbeats 16000000 in
theorem firsts_any {w0 w : World} {b N lo hi cap : Nat} {s : Nat → Nat} {st : Sp} {l : List (Nat × Blk)} (h : WSt w0 b N lo hi cap s w st l) (hN : N ≤ 12) :
    Calls Tryd.prog 19 #[.pointer (some ⟨b, 0, none⟩)] w fun e w' => ∃ (o : Nat → Option Addr) (m cp : Nat → Nat), e = .returned (.agg #[.slice (o 0) (m 0) (cp 0), .slice (o 1) (m 1) (cp 1), .slice (o 2) (m 2) (cp 2), .slice (o 3) (m 3) (cp 3), .slice (o 4) (m 4) (cp 4), .slice (o 5) (m 5) (cp 5), .slice (o 6) (m 6) (cp 6), .slice (o 7) (m 7) (cp 7)]) ∧ (∀ c, c < 8 → m c = (frL N st (c : Int) (64 * N)).length ∧ w'.ownsRow w.heap.size 3 1 (.slice (o c) (m c) (cp c)) (m c) (ivs (frL N st (c : Int) (64 * N)))) ∧ Out 0 0 w w' := by
  have HH := hid_mk h
  obtain ⟨h1, h2, h3, h4, h5, v, h6, h7⟩ := h
  have hN1 := h3.2.n1
  have HI := hid_mk (And.intro h3.2 (And.intro h4 h5))
  have HW := hid_mk h6
  have HSp := hid_mk h3
  have HB : Hid (b < w.heap.size) := h6.lt
  have n0 : (1 : Int) ≤ (N : Int) := by omega
  have n1 : (N : Int) ≤ 12 := by omega
  have HN := hid_mk (And.intro hN1 hN)
  obtain ⟨M, hM⟩ : ∃ M, 64 * N = M := ⟨_, rfl⟩
  clear h1 h2 h3 h4 h5 h6 h7
  go_enter Tryd.func19, Tryd.ntmps19
  go_wp2_with fail
  obtain ⟨W1, hW1⟩ : ∃ W, (w.alloc (.cells #[.slice none 0 0, .slice none 0 0, .slice none 0 0, .slice none 0 0, .slice none 0 0, .slice none 0 0, .slice none 0 0, .slice none 0 0] 51)).alloc (.cells #[.slice none 0 0, .slice none 0 0, .slice none 0 0, .slice none 0 0, .slice none 0 0, .slice none 0 0, .slice none 0 0, .slice none 0 0] 51) = W := ⟨_, rfl⟩
  obtain ⟨R, hR⟩ : ∃ R, w.heap.size = R := ⟨_, rfl⟩
  obtain ⟨X, hX⟩ : ∃ X, R + 1 = X := ⟨_, rfl⟩
  have o1 : Out 0 0 w W1 := by rw [← hW1]; exact ((Out.refl 0 0 w).alloc _).alloc _
  have e0 : (w.alloc (.cells #[.slice none 0 0, .slice none 0 0, .slice none 0 0, .slice none 0 0, .slice none 0 0, .slice none 0 0, .slice none 0 0, .slice none 0 0] 51)).heap.size = X := by rw [World.size_alloc, hR, hX]
  have e1 : W1.heap.size = X + 1 := by rw [← hW1, World.size_alloc, e0]
  have fR : W1.heap[R]? = some (.cells #[.slice none 0 0, .slice none 0 0, .slice none 0 0, .slice none 0 0, .slice none 0 0, .slice none 0 0, .slice none 0 0, .slice none 0 0] 51 (0, 0)) := by
    rw [← hW1, ← hR]
    exact (heap_alloc_old _ _ (by rw [World.size_alloc]; omega)).trans (heap_alloc_new _ _)
  have fX : W1.heap[X]? = some (.cells #[.slice none 0 0, .slice none 0 0, .slice none 0 0, .slice none 0 0, .slice none 0 0, .slice none 0 0, .slice none 0 0, .slice none 0 0] 51 (0, 0)) := by
    rw [← hW1, ← e0]
    exact heap_alloc_new _ _
  have hC := owner_any (HH.out.quiet o1) HN.out.2
  rw [hM, e1] at hC
  have HC := hid_mk hC
  have HO1 := hid_mk (And.intro o1 (And.intro fR (And.intro fX (And.intro e1 (And.intro hR hX)))))
  rw [hW1]
  (try rw [hR])
  (try rw [hX])
  clear hW1 hC o1 e0 e1 fR fX hR hX
  refine HC.out.mono ?_
  rintro e w2 ⟨rfl, hrow, ho2⟩
  obtain ⟨G, hG⟩ : ∃ G, X + 1 = G := ⟨_, rfl⟩
  rw [hG] at hrow ⊢
  have o2 := HO1.out.1.trans ho2
  have c1 := (HW.out.kept o2 (.inr (Nat.zero_le _))).cells.2.1
  have HRw := hid_mk hrow
  have HO2 := hid_mk (And.intro o2 (And.intro ho2 hG))
  have HDp := hid_mk (dumpF (HSp.out.quiet o2))
  clear hrow o2 ho2 hG HC
  go_wp2_with fail
  refine HDp.out.mono ?_
  rintro e w4 ⟨zo2, gw, gp, zc0, zc1, zc2, k0, k1, k2, k3, k4, k5, k6, k7, rfl, hg1, hg2, hg3, hg4, hw4, hp4, ho4⟩
  have H4 := hid_mk (And.intro hg2 (And.intro hg4 (And.intro hp4 ho4)))
  obtain ⟨q, hq⟩ : ∃ q, (objsTo (rawOf N st) (64 * N)).length = q := ⟨_, rfl⟩
  rw [hq, hM]
  clear hg1 hg2 hg3 hg4 hw4 hp4 ho4 HDp c1 hq
  go_wp2_with fail
  obtain ⟨W5, hW5⟩ : ∃ W, w4.alloc (.cells #[.slice (some ⟨gw, 0, none⟩) M zc0, .slice (some ⟨gp, 0, none⟩) N zc1, .slice zo2 q zc2, .int .i64 k0, .int .i64 k1, .int .i64 k2, .int .i64 k3, .int .i64 k4, .int .i64 k5, .int .i64 k6, .int .i64 k7, .int .i64 st.last] 46) = W := ⟨_, rfl⟩
  obtain ⟨D, hD⟩ : ∃ D, w4.heap.size = D := ⟨_, rfl⟩
  obtain ⟨B, hB⟩ : ∃ B, W5.heap.size = B := ⟨_, rfl⟩
  have o5 : Out 0 0 w4 W5 := by rw [← hW5]; exact (Out.refl 0 0 w4).alloc _
  have fD : W5.heap[D]? = some (.cells #[.slice (some ⟨gw, 0, none⟩) M zc0, .slice (some ⟨gp, 0, none⟩) N zc1, .slice zo2 q zc2, .int .i64 k0, .int .i64 k1, .int .i64 k2, .int .i64 k3, .int .i64 k4, .int .i64 k5, .int .i64 k6, .int .i64 k7, .int .i64 st.last] 46 (0, 0)) := by rw [← hW5, ← hD]; exact heap_alloc_new _ _
  have oa := H4.out.2.2.2.trans o5
  have ob := HO2.out.2.1.trans oa
  have HX5 := hid_mk (ob.heap HO1.out.2.2.1 (.inr (Nat.zero_le _)))
  have HR5 := hid_mk (ob.heap HO1.out.2.1 (.inr (Nat.zero_le _)))
  have HG5 := hid_mk (HRw.out.kept oa (.inr (Nat.zero_le _)))
  have HC0 := hid_mk ((HW.out.kept (HO1.out.1.trans ob) (.inr (Nat.zero_le _))).cells.1)
  have HD1 : Hid (W5.cell? ⟨D, 1, none⟩ = some (.slice (some ⟨gp, 0, none⟩) N zc1)) := by show _ = _; simp [World.cell?, fD]
  have HPg := hid_mk (fun j i (hj : j < N) (hi : i < 3) => o5.cell (H4.out.2.2.1 j i hj hi) (.inr (Nat.zero_le _)))
  have HO5 := hid_mk (HO1.out.1.trans ob)
  have HQ : Hid (b < R ∧ R + 1 = X ∧ X + 1 = G ∧ G < gp ∧ G < D ∧ gp < B ∧ D < B ∧ W5.heap.size = B ∧ w.heap.size = R) := by
    have a1 := HO1.out.2.2.2
    have a2 := HO2.out.2.2
    have a3 := H4.out.1
    have a4 := H4.out.2.1
    have a5 := heap_lt fD
    have a6 := o5.size
    have a7 := H4.out.2.2.2.size
    have a8 := HRw.out.lt
    have a9 := HB.out
    show _ ∧ _
    omega
  rw [hW5]
  (try rw [hD])
  have HBs := hid_mk hB
  clear hW5 o5 fD oa ob HO1 HO2 H4 HRw HW HSp HH hD hB
  have hne := neq_nilSl
  go_loopw [6] (fun u wr => ∃ (p : Nat) (sl : Nat → Value), u = .int .i64 (p : Int) ∧ p ≤ N ∧ Out8 wr X B sl (fun c => frL N st (c : Int) (64 * p)) ∧ Out X (X + 1) W5 wr) (fun u _ => N - (intOf u).toNat)
  case atStart => exact ⟨0, fun _ => .slice none 0 0, rfl, Nat.zero_le _, ⟨nil8_at HX5.out, by have := HQ.out; omega, by have := HQ.out; omega, fun c hc => ⟨rfl, .inl ⟨rfl, rfl⟩⟩, fun c d _ _ _ g hg => by cases hg⟩, Out.refl _ _ _⟩
  case round =>
    obtain ⟨p, sl, rfl, p1, r8, ro⟩ := hrel
    have hx := HQ.out
    have c0 := ro.cell HC0.out (.inl (by show b < X; omega))
    have dP := ro.cell HD1.out (.inr (by show X + 1 ≤ D; omega))
    have p0 : (0 : Int) ≤ (p : Int) := by omega
    by_cases hp : p < N
    · have p2 : (p : Int) < (N : Int) := by omega
      have d0 := ro.cell (HPg.out p 0 hp (by omega)) (.inr (by show X + 1 ≤ gp; omega))
      have d1 := ro.cell (HPg.out p 1 hp (by omega)) (.inr (by show X + 1 ≤ gp; omega))
      rw [fP_0, Nat.add_zero] at d0
      rw [fP_1] at d1
      have HRd := hid_mk (And.intro r8 ro)
      have hsz := ro.size
      have HWr : Hid (B ≤ wr.heap.size) := by show _ ≤ _; omega
      clear r8 ro hx hsz
      by_cases hk : (st.S p).1 = 1
      · obtain ⟨c, hc8, hS⟩ : ∃ c : Nat, c < 8 ∧ st.S p = (1, (c : Int), 0) := by
          rcases HI.out.1.good p hp with e | ⟨c, c0, c7, e⟩ | ⟨k, _, _, _, e, _⟩ | ⟨e, _⟩
          · rw [e] at hk; cases hk
          · exact ⟨c.toNat, by omega, by rw [e, show ((c.toNat : Nat) : Int) = c from by omega]⟩
          · rw [e] at hk; cases hk
          · rw [e] at hk; cases hk
        rw [hS] at d0 d1
        dsimp only at d0 d1
        have e0 : (0 : Int) ≤ (c : Int) := by omega
        have e7 : (c : Int) ≤ 7 := by omega
        obtain ⟨z, hz⟩ : ∃ z, wN (c : Int) = z := ⟨_, rfl⟩
        have hzz := wN_pos e0 e7
        rw [hz] at hzz
        have hwz : wordsV (c : Int) = (z : Int) := by unfold wN at hz; have : 0 ≤ wordsV (c : Int) := (by unfold wordsV; omega); omega
        have z0 : (2 : Int) ≤ (z : Int) := by omega
        have z1 : (z : Int) ≤ 32 := by omega
        have c8 : (wr.alloc (.cells #[.int .i64 2, .int .i64 4, .int .i64 6, .int .i64 8, .int .i64 12, .int .i64 16, .int .i64 20, .int .i64 32] 3)).cell? ⟨wr.heap.size, c, none⟩ = some (.int .i64 (z : Int)) := by
          rw [← hwz]; exact cls_at (heap_alloc_new _ _) hc8
        have HSp := hid_mk (And.intro hS (And.intro hz (And.intro hzz hc8)))
        clear hS hz hzz hwz hk
        go_wp2_with fail
        obtain ⟨W6, hW6⟩ : ∃ W, wr.alloc (.cells #[.int .i64 2, .int .i64 4, .int .i64 6, .int .i64 8, .int .i64 12, .int .i64 16, .int .i64 20, .int .i64 32] 3) = W := ⟨_, rfl⟩
        have o6 : Out 0 0 wr W6 := by rw [← hW6]; exact (Out.refl 0 0 wr).alloc _
        rw [hW6]
        have H6 := hid_mk (And.intro (HRd.out.1.quiet o6) (HRd.out.2.trans (o6.any _ _)))
        clear hW6 o6 c8 d0 d1 c0 dP HWr
        go_loopw [9] (fun u wq => ∃ (i : Nat) (sl : Nat → Value), u = .int .i64 (i : Int) ∧ i * z ≤ 64 ∧ Out8 wq X B sl (fun d => if d = c then frL N st (c : Int) (64 * p + i * z) else frL N st (d : Int) (64 * p)) ∧ Out X (X + 1) W5 wq) (fun u _ => 64 - (intOf u).toNat)
        case atStart =>
          refine ⟨0, sl, rfl, by omega, H6.out.1.congr fun d hd => ?_, H6.out.2⟩
          (try dsimp only)
          by_cases e : d = c
          · rw [if_pos e, e, Nat.zero_mul, Nat.add_zero]
          · rw [if_neg e]
        case round =>
          clear HRd H6
          obtain ⟨i, sl2, rfl, i1, r8, ro⟩ := hrel
          have hsp := HSp.out
          have i0 : (0 : Int) ≤ (i : Int) := by omega
          have i2 : i * 2 ≤ i * z := Nat.mul_le_mul_left _ hsp.2.2.1.1
          have i3 : (i : Int) ≤ 32 := by omega
          obtain ⟨q1, hq1⟩ : ∃ q, (i + 1) * z = q := ⟨_, rfl⟩
          have j1 : ((i : Int) + 1) * (z : Int) = (q1 : Int) := by rw [← hq1]; push_cast; rfl
          have hq1' : i * z + z = q1 := by rw [← hq1, Nat.add_mul, Nat.one_mul]
          have j0 : (0 : Int) ≤ (q1 : Int) := by omega
          have j9 : (q1 : Int) ≤ 96 := by omega
          by_cases hi : q1 ≤ 64
          · have j2 : (q1 : Int) ≤ 64 := by omega
            obtain ⟨qq, hqq⟩ : ∃ q, i * z = q := ⟨_, rfl⟩
            have j3 : (i : Int) * (z : Int) = (qq : Int) := by rw [← hqq]; push_cast; rfl
            obtain ⟨P, hP⟩ : ∃ P, 64 * p = P := ⟨_, rfl⟩
            have j4 : (64 : Int) * (p : Int) = (P : Int) := by omega
            obtain ⟨x, hx⟩ : ∃ x, P + qq = x := ⟨_, rfl⟩
            have j5 : (P : Int) + (qq : Int) = (x : Int) := by omega
            have j6 : (0 : Int) ≤ (qq : Int) := by omega
            have j7 : (qq : Int) ≤ 64 := by omega
            have j8 : (0 : Int) ≤ (P : Int) := by omega
            have ja : (P : Int) ≤ 768 := by omega
            have jb : (0 : Int) ≤ (x : Int) := by omega
            have hxM : x < M := by omega
            have jc : (x : Int) < (M : Int) := by omega
            have hxq := HQ.out
            have g0 := (HG5.out.kept ro (.inr (by omega))).cell hxM
            have hst : startB (c : Int) (x % 64) = true := by
              have := start_at (c := (c : Int)) e0 e7 (i := i) (by rw [hsp.2.1, hq1]; exact hi)
              rw [hsp.2.1, hqq] at this
              rw [show x % 64 = qq from by omega]
              exact this
            have how := ow_has HI.out.1 HI.out.2.2 (a := x) (c := (c : Int)) (by omega) (by rw [show x / 64 = p from by omega]; exact hsp.1) hst
            have hbl := frL_block (n := N) (st := st) e0 e7 hp hsp.1 (i := i) (by rw [hsp.2.1, hq1]; exact hi)
            rw [hsp.2.1, hq1, hqq, hP, hx] at hbl
            obtain ⟨t, ht⟩ : ∃ t, owTo l l.length x = t := ⟨_, rfl⟩
            rw [ht] at g0 how
            rw [hqq, hP, hx] at r8
            have HRd := hid_mk (And.intro r8 ro)
            have HAr := hid_mk (And.intro hP (And.intro hqq (And.intro hx (And.intro hq1 hi))))
            clear ro hst i2 hq1 hqq hx ht hxq hsp hq1' i1
            cases hob : hasB (st.O x) with
            | true =>
              rw [hob] at how hbl
              have t0 : ¬ t < 0 := by simpa using how
              have HBl := hid_mk hbl
              clear how hbl hob hP r8
              go_wp2_with fail
              have ha := HAr.out
              refine ⟨⟨i + 1, sl2, by congr 1, by omega, HRd.out.1.congr fun d hd => ?_, HRd.out.2⟩, by simp [intOf]; omega⟩
              (try dsimp only)
              by_cases e : d = c
              · rw [if_pos e, if_pos e, ha.2.2.2.1, ha.1]; exact HBl.out
              · rw [if_neg e, if_neg e]; rw [ha.1]
            | false =>
              rw [hob] at how hbl
              have t0 : t < 0 := by simpa using how
              have HBl := hid_mk hbl
              obtain ⟨so, sc, hso⟩ := own_form (r8.2.2.2.1 c HSp.out.2.2.2)
              obtain ⟨m, hm⟩ : ∃ m, (if c = c then frL N st (c : Int) x else frL N st (c : Int) P).length = m := ⟨_, rfl⟩
              have hm2 : m ≤ 1000 := by
                rw [if_pos rfl] at hm
                have := frL_len (n := N) (st := st) (c : Int) x
                have := HN.out
                omega
              rw [hm] at hso
              have cv := r8.1.cell HSp.out.2.2.2
              rw [hso] at cv
              have on : Out 0 0 wr (wr.alloc (.cells #[.int .i64 (x : Int)] 3)) := (Out.refl 0 0 wr).alloc _
              have HN8 := hid_mk (r8.quiet on)
              have HNE : Hid ((wr.alloc (.cells #[.int .i64 (x : Int)] 3)).cell? ⟨wr.heap.size, 0, none⟩ = some (.int .i64 (x : Int))) := by show _ = _; unfold World.cell?; rw [heap_alloc_new]; rfl
              have HM := hid_mk (And.intro hm (And.intro hm2 hso))
              clear how hbl hob hP r8 hm hm2 hso on
              go_wp2_with (at_builtin; refine wpList_app8 rfl _ _ rfl HN8.out HSp.out.2.2.2 (.slice so m sc) m HM.out.2.2 rfl HM.out.1 wr.heap.size rfl (x : Int) HNE.out HM.out.2.1 ?_; intro g4 cap4 w1 hG4 oG4; have HG4 := hid_mk hG4; have HOg := hid_mk oG4; clear cv; have cv := hG4.1.cell HSp.out.2.2.2; have cf := hG4.1.frozen c; clear hG4 oG4)
              have ha := HAr.out
              have hbs := HBs.out
              have o9 : Out X (X + 1) w1 (w1.setCell ⟨X, c, none⟩ (.slice (some ⟨g4, 0, none⟩) (m + 1) cap4)) := (Out.refl _ _ _).setCell (p := ⟨X, c, none⟩) (.inl ⟨Nat.le_refl _, Nat.lt_succ_self _⟩) _
              refine ⟨⟨i + 1, _, by congr 1, by omega, HG4.out.put.congr fun d hd => ?_, (out_far (HRd.out.2.trans (((Out.refl 0 0 wr).alloc _).any _ _)) HOg.out (.inl (by omega))).trans o9⟩, by simp [intOf]; omega⟩
              (try dsimp only)
              by_cases e : d = c
              · rw [if_pos e, if_pos e, if_pos rfl, ha.2.2.2.1, ha.1]; exact HBl.out
              · rw [if_neg e, if_neg e, if_neg e, ha.1]
          · have j2 : ¬ (q1 : Int) ≤ 64 := by omega
            have hend := frL_end (n := N) (st := st) (c := (c : Int)) e0 e7 (p := p) (i := i) (by rw [hsp.2.1, hq1]; exact hi) (by rw [hsp.2.1]; exact i1)
            rw [hsp.2.1] at hend
            have HE := hid_mk (And.intro r8 (And.intro ro hend))
            clear r8 ro hend hsp hq1 hq1' i1 i2 hi
            go_wp2_with fail
            refine ⟨⟨p + 1, sl2, by congr 1, by omega, HE.out.1.congr fun d hd => ?_, HE.out.2.1⟩, by simp [intOf]; omega⟩
            (try dsimp only)
            by_cases e : d = c
            · rw [if_pos e, e]; exact HE.out.2.2
            · rw [if_neg e]; exact frL_page (by rw [HSp.out.1]; intro e2; apply e; injection e2 with _ e3; injection e3 with e4 _; omega)
      · obtain ⟨kd, hkd⟩ : ∃ k, (st.S p).1 = k := ⟨_, rfl⟩
        obtain ⟨cl, hcl⟩ : ∃ k, (st.S p).2.1 = k := ⟨_, rfl⟩
        rw [hkd] at d0 hk
        rw [hcl] at d1
        have HK := hid_mk (And.intro hkd hk)
        clear hkd hcl
        go_wp2_with fail
        refine ⟨⟨p + 1, sl, by congr 1, by omega, HRd.out.1.congr fun d hd => frL_page (by intro e; apply HK.out.2; rw [← HK.out.1, e]), HRd.out.2⟩, by simp [intOf]; omega⟩
    · have e : p = N := by omega
      subst e
      have hf : ∀ j, j < 8 → ∃ o cp, sl j = .slice o (frL p st (j : Int) (64 * p)).length cp := fun j hj => by
        obtain ⟨o, cp, e⟩ := own_form (r8.2.2.2.1 j hj)
        exact ⟨o, cp, e⟩
      obtain ⟨o, ho⟩ : ∃ o : Nat → Option Addr, ∀ j, j < 8 → ∃ cp, sl j = .slice (o j) (frL p st (j : Int) (64 * p)).length cp := ⟨fun j => if h : j < 8 then (hf j h).choose else none, fun j hj => by dsimp only; rw [dif_pos hj]; exact (hf j hj).choose_spec⟩
      obtain ⟨cp, hcp⟩ : ∃ cp : Nat → Nat, ∀ j, j < 8 → sl j = .slice (o j) (frL p st (j : Int) (64 * p)).length (cp j) := ⟨fun j => if h : j < 8 then (ho j h).choose else 0, fun j hj => by dsimp only; rw [dif_pos hj]; exact (ho j hj).choose_spec⟩
      obtain ⟨m, hm⟩ : ∃ m : Nat → Nat, ∀ j, m j = (frL p st (j : Int) (64 * p)).length := ⟨_, fun _ => rfl⟩
      have hsl : ∀ j, j < 8 → sl j = .slice (o j) (m j) (cp j) := fun j hj => by rw [hm]; exact hcp j hj
      have hr5 := ro.heap HR5.out (.inl (by have := HQ.out; omega))
      have HF := hid_mk (And.intro r8 (And.intro ro (And.intro hm hsl)))
      have HArr := hid_mk hr5
      have x0 : wr.cell? ⟨X, 0, none⟩ = some (.slice (o 0) (m 0) (cp 0)) := by rw [← hsl 0 (by omega)]; exact r8.1.cell (by omega)
      have y0 : wr.cell? ⟨R, 0, none⟩ = some (.slice none 0 0) := by simp [World.cell?, hr5]
      have x1 : wr.cell? ⟨X, 1, none⟩ = some (.slice (o 1) (m 1) (cp 1)) := by rw [← hsl 1 (by omega)]; exact r8.1.cell (by omega)
      have y1 : wr.cell? ⟨R, 1, none⟩ = some (.slice none 0 0) := by simp [World.cell?, hr5]
      have x2 : wr.cell? ⟨X, 2, none⟩ = some (.slice (o 2) (m 2) (cp 2)) := by rw [← hsl 2 (by omega)]; exact r8.1.cell (by omega)
      have y2 : wr.cell? ⟨R, 2, none⟩ = some (.slice none 0 0) := by simp [World.cell?, hr5]
      have x3 : wr.cell? ⟨X, 3, none⟩ = some (.slice (o 3) (m 3) (cp 3)) := by rw [← hsl 3 (by omega)]; exact r8.1.cell (by omega)
      have y3 : wr.cell? ⟨R, 3, none⟩ = some (.slice none 0 0) := by simp [World.cell?, hr5]
      have x4 : wr.cell? ⟨X, 4, none⟩ = some (.slice (o 4) (m 4) (cp 4)) := by rw [← hsl 4 (by omega)]; exact r8.1.cell (by omega)
      have y4 : wr.cell? ⟨R, 4, none⟩ = some (.slice none 0 0) := by simp [World.cell?, hr5]
      have x5 : wr.cell? ⟨X, 5, none⟩ = some (.slice (o 5) (m 5) (cp 5)) := by rw [← hsl 5 (by omega)]; exact r8.1.cell (by omega)
      have y5 : wr.cell? ⟨R, 5, none⟩ = some (.slice none 0 0) := by simp [World.cell?, hr5]
      have x6 : wr.cell? ⟨X, 6, none⟩ = some (.slice (o 6) (m 6) (cp 6)) := by rw [← hsl 6 (by omega)]; exact r8.1.cell (by omega)
      have y6 : wr.cell? ⟨R, 6, none⟩ = some (.slice none 0 0) := by simp [World.cell?, hr5]
      have x7 : wr.cell? ⟨X, 7, none⟩ = some (.slice (o 7) (m 7) (cp 7)) := by rw [← hsl 7 (by omega)]; exact r8.1.cell (by omega)
      have y7 : wr.cell? ⟨R, 7, none⟩ = some (.slice none 0 0) := by simp [World.cell?, hr5]
      have gf : ∀ j, wr.frozen? ⟨R, j, none⟩ = false := fun j => by simp [World.frozen?, hr5]
      have hRX : R ≠ X := by have := HQ.out; omega
      clear r8 ro hf ho hcp hm hsl hr5 hx
      go_wp2
      have hs8 := set8 HArr.out (.slice (o 0) (m 0) (cp 0)) (.slice (o 1) (m 1) (cp 1)) (.slice (o 2) (m 2) (cp 2)) (.slice (o 3) (m 3) (cp 3)) (.slice (o 4) (m 4) (cp 4)) (.slice (o 5) (m 5) (cp 5)) (.slice (o 6) (m 6) (cp 6)) (.slice (o 7) (m 7) (cp 7))
      have ho8 := out8s wr R (.slice (o 0) (m 0) (cp 0)) (.slice (o 1) (m 1) (cp 1)) (.slice (o 2) (m 2) (cp 2)) (.slice (o 3) (m 3) (cp 3)) (.slice (o 4) (m 4) (cp 4)) (.slice (o 5) (m 5) (cp 5)) (.slice (o 6) (m 6) (cp 6)) (.slice (o 7) (m 7) (cp 7))
      refine ret88 (g := R) rfl rfl rfl rfl hs8 ⟨o, m, cp, rfl, fun c hc => ⟨HF.out.2.2.1 c, ?_⟩, ?_⟩
      · have hq := HQ.out
        have hw := HF.out.1.2.2.2.1 c hc
        rw [HF.out.2.2.2 c hc, ← HF.out.2.2.1 c] at hw
        exact ownw (ownk hw ho8 (by omega)) (by omega)
      · have hq := HQ.out
        exact (HO5.out.past HF.out.2.1 (by omega)).past ho8 (by omega)
end Go.Proofs.YtjbbkeoolodeaabDoor
