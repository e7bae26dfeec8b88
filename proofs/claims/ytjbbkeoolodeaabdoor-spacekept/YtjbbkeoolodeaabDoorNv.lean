import Derived.Test.YtjbbkeoolodeaabDoorNu
import Derived.Test.YtjbbkeoolodeaabDoorNt
import Derived.Test.YtjbbkeoolodeaabDoorNa
namespace Go.Proofs.YtjbbkeoolodeaabDoor
open Go.RowKit
set_option linter.unusedVariables false
set_option linter.unusedSimpArgs false

section
variable {n : Nat} {st : Sp} {l : List (Nat × Blk)}
theorem frL_tail {c : Int} {m : Nat} (hm : m ≤ 64 * n) : ∃ t, frL n st c (64 * n) = frL n st c m ++ t ∧ (t[0]?).getD (-1) = nf n st c m := by
  rcases nxr_cases (fr n st c) (64 * n) m with ⟨e, h⟩ | ⟨i, e, i1, i2, i3, i4⟩
  · refine ⟨[], ?_, by unfold nf; rw [e]; rfl⟩
    rw [List.append_nil]
    have := frL_skip (n := n) (st := st) (c := c) (m := m) (64 * n - m) (fun j h1 h2 => h j h1 (by omega))
    rw [show m + (64 * n - m) = 64 * n from by omega] at this
    exact this
  · have i2' := i2 hm
    have h0 : frL n st c i = frL n st c m := by
      have := frL_skip (n := n) (st := st) (c := c) (m := m) (i - m) (fun j h1 h2 => i4 j h1 (by omega))
      rw [show m + (i - m) = i from by omega] at this
      exact this
    obtain ⟨t, ht⟩ := frL_more (n := n) (st := st) c (i + 1) (64 * n - (i + 1))
    rw [show i + 1 + (64 * n - (i + 1)) = 64 * n from by omega, frL_succ, i3, if_pos rfl, h0] at ht
    refine ⟨(i : Int) :: t, by rw [ht, List.append_assoc]; rfl, ?_⟩
    unfold nf
    rw [e]; rfl
theorem frL_nodup (c : Int) (m : Nat) : (frL n st c m).Nodup := by
  unfold frL
  refine List.Pairwise.map _ (fun a b h => ?_) (List.nodup_range.filter _)
  intro e
  exact h (by omega)
theorem frL_next {c : Int} {i a : Nat} (h : (frL n st c (64 * n))[i]? = some (a : Int)) : nf n st c (a + 1) = ((frL n st c (64 * n))[i + 1]?).getD (-1) := by
  obtain ⟨j, j1, j2, j3⟩ := frL_mem.1 (List.mem_of_getElem? h)
  have e : j = a := by omega
  subst e
  obtain ⟨t, ht, _⟩ := frL_tail (n := n) (st := st) (c := c) (m := j + 1) (by omega)
  obtain ⟨t2, ht2, hn2⟩ := frL_tail (n := n) (st := st) (c := c) (m := j + 1) (by omega)
  have hs : frL n st c (j + 1) = frL n st c j ++ [(j : Int)] := by rw [frL_succ, j2, if_pos rfl]
  have hi : i = (frL n st c j).length := by
    have e2 : (frL n st c (64 * n))[(frL n st c j).length]? = some (j : Int) := by
      rw [ht2, hs, List.append_assoc, List.getElem?_append_right (Nat.le_refl _), Nat.sub_self]; rfl
    exact (List.getElem?_inj ((List.getElem?_eq_some_iff.1 h).1) (frL_nodup c (64 * n))).1 (by rw [h, e2])
  rw [← hn2, ht2, hs, hi, List.getElem?_append_right (by simp)]
  simp
/-- what must stand where no object is -/
def lkC (n : Nat) (st : Sp) : Nat → Nat → Int
  | 0, _ => 0
  | c + 1, j => if fr n st (c : Int) j then linkV (nf n st (c : Int) (j + 1)) else lkC n st c j
def lkI (n : Nat) (st : Sp) (c i j : Nat) : Int := if ((frL n st (c : Int) (64 * n)).take i).contains (j : Int) then linkV (nf n st (c : Int) (j + 1)) else lkC n st c j
theorem lk_zero (c j : Nat) : lkI n st c 0 j = lkC n st c j := by unfold lkI; simp
theorem lk_end (c : Nat) {j : Nat} (hj : j < 64 * n) : lkI n st c (frL n st (c : Int) (64 * n)).length j = lkC n st (c + 1) j := by
  unfold lkI
  rw [List.take_length]
  show _ = if fr n st (c : Int) j then linkV (nf n st (c : Int) (j + 1)) else lkC n st c j
  cases hf : fr n st (c : Int) j with
  | true =>
    rw [if_pos (List.contains_iff_mem.2 (frL_mem.2 ⟨j, hj, hf, rfl⟩)), if_pos rfl]
  | false =>
    rw [if_neg, if_neg (by simp)]
    intro h
    obtain ⟨k, _, k2, k3⟩ := frL_mem.1 (List.contains_iff_mem.1 h)
    have : k = j := by omega
    rw [this, hf] at k2; cases k2
theorem lk_step {c i a : Nat} (h : (frL n st (c : Int) (64 * n))[i]? = some (a : Int)) (j : Nat) : (if j = a then linkV (nf n st (c : Int) (a + 1)) else lkI n st c i j) = lkI n st c (i + 1) j := by
  unfold lkI
  rw [List.take_add_one, h]
  by_cases e : j = a
  · subst e
    rw [if_pos rfl, if_pos (by rw [List.contains_iff_mem]; simp)]
  · rw [if_neg e]
    have : ((frL n st (c : Int) (64 * n)).take i ++ (some (a : Int)).toList).contains (j : Int) = ((frL n st (c : Int) (64 * n)).take i).contains (j : Int) := by
      rw [Bool.eq_iff_iff, List.contains_iff_mem, List.contains_iff_mem, List.mem_append]
      constructor
      · rintro (h | h)
        · exact h
        · simp at h; omega
      · exact .inl
    rw [this]
theorem link_small {x : Int} (h1 : -1 ≤ x) (h2 : x ≤ 1000) : linkV x = x * 8 + 4 := by
  unfold linkV nextB
  rw [if_pos (by simp; omega)]
theorem lk_none8 {j : Nat} : ∀ c, (∀ d : Nat, d < c → fr n st (d : Int) j = false) → lkC n st c j = 0
  | 0, _ => rfl
  | c + 1, h => by
    unfold lkC
    rw [h c (by omega), if_neg (by simp)]
    exact lk_none8 c fun d hd => h d (by omega)
theorem lk_some8 {j d : Nat} (hf : fr n st (d : Int) j = true) : ∀ c, d < c → lkC n st c j = linkV (nf n st (d : Int) (j + 1))
  | 0, h => by omega
  | c + 1, h => by
    unfold lkC
    cases e : fr n st (c : Int) j with
    | true =>
      have : (c : Int) = (d : Int) := fr_one e hf
      rw [if_pos rfl, this]
    | false =>
      rw [if_neg (by simp)]
      refine lk_some8 hf c ?_
      by_cases e2 : d = c
      · rw [e2, e] at hf; cases hf
      · omega
theorem ow_cov {j m : Nat} (h : 0 ≤ owTo l m j) : ∃ i, i < m ∧ (atB l i).1 ≤ j ∧ j < (atB l i).1 + rmL l i := by
  refine Classical.byContradiction fun hn => ?_
  have := ow_none (l := l) (j := j) m fun i hi hc => hn ⟨i, hi, hc⟩
  omega
/-- a word of a kept room is as it was -/
theorem kept_in {ps : List Int} (hI : Inv n st) (h : ObL (keepSp n st ps) l) {j : Nat} (hj : j < 64 * n) (ho : 0 ≤ owTo l l.length j) : (keepSp n st ps).W j = st.W j := by
  obtain ⟨i, hi, c1, c2⟩ := ow_cov ho
  obtain ⟨e1, e2⟩ := obl_at h hi
  have hkp : hasB (st.O (atB l i).1) = true ∧ kpS ps (atB l i).1 = true := by rw [keep_has, Bool.and_eq_true] at e2; exact e2
  have hO : (keepSp n st ps).O (atB l i).1 = st.O (atB l i).1 := by rw [keep_O, hkp.2]; rfl
  unfold rmL at c2
  have hno : ∀ c, fr n (keepSp n st ps) c j = false := fun c => by
    cases e : fr n (keepSp n st ps) c j with
    | false => rfl
    | true =>
      have := free_out (inv_keep hI) e e2
      rw [e1] at this
      omega
  rw [(keep_W hI hj).2 hno, if_pos ((inRm_keep hI j).2 ⟨_, e2, c1, by rw [← hO, e1]; exact c2⟩)]
/-- all other words are as they must be -/
theorem kept_out {ps : List Int} (hI : Inv n st) (h : ObL (keepSp n st ps) l) {j : Nat} (hj : j < 64 * n) (ho : owTo l l.length j < 0) : (keepSp n st ps).W j = lkC n (keepSp n st ps) 8 j := by
  by_cases hf : ∃ c, fr n (keepSp n st ps) c j = true
  · obtain ⟨c, hf⟩ := hf
    obtain ⟨d, d8, rfl⟩ := fr_class (inv_keep hI) hf
    rw [lk_some8 hf 8 d8, (keep_W hI hj).1 _ hf]
  · have hno : ∀ c, fr n (keepSp n st ps) c j = false := fun c => by
      cases e : fr n (keepSp n st ps) c j with
      | false => rfl
      | true => exact absurd ⟨c, e⟩ hf
    rw [lk_none8 8 fun d _ => hno _, (keep_W hI hj).2 hno, if_neg]
    intro hin
    obtain ⟨a, a1, a2, a3⟩ := (inRm_keep hI j).1 hin
    obtain ⟨q, hq, he⟩ := List.mem_map.1 (h.2.2 a a1)
    obtain ⟨i, hi, hqi⟩ := List.getElem_of_mem hq
    have e : atB l i = q := by unfold atB; rw [List.getElem?_eq_getElem hi, hqi]; rfl
    have hkp : hasB (st.O a) = true ∧ kpS ps a = true := by rw [keep_has, Bool.and_eq_true] at a1; exact a1
    have hO : (keepSp n st ps).O a = st.O a := by rw [keep_O, hkp.2]; rfl
    have hb : (atB l i).2 = st.O a := by
      have := (h.2.1 q hq).1
      rw [he, hO] at this
      rw [e, this]
    have := ow_some (l := l) (j := j) (i := i) ⟨by rw [e, he]; exact a2, by unfold rmL; rw [hb, e, he]; exact a3⟩ l.length hi
    omega
/-- the pages in which a room's words lie, among the first m words -/
def usP (l : List (Nat × Blk)) : Nat → Nat → Bool
  | 0, _ => false
  | m + 1, p => usP l m p || (decide (m / 64 = p) && decide (0 ≤ owTo l l.length m))
theorem us_iff {p : Nat} : ∀ m, usP l m p = true ↔ ∃ j, j < m ∧ j / 64 = p ∧ 0 ≤ owTo l l.length j
  | 0 => by simp [usP]
  | m + 1 => by
    have ih := us_iff (p := p) m
    unfold usP
    rw [Bool.or_eq_true, ih, Bool.and_eq_true, decide_eq_true_eq, decide_eq_true_eq]
    constructor
    · rintro (⟨j, j1, j2⟩ | h)
      · exact ⟨j, by omega, j2⟩
      · exact ⟨m, Nat.lt_succ_self _, h⟩
    · rintro ⟨j, j1, j2⟩
      by_cases e : j = m
      · subst e; exact .inr j2
      · exact .inl ⟨j, by omega, j2⟩
theorem cnt_no {P : Nat → Bool} : ∀ b, (∀ j, j < b → P j = false) → cnt P b = 0
  | 0, _ => rfl
  | b + 1, h => by
    show cnt P b + (if P b then 1 else 0) = 0
    rw [cnt_no b fun j hj => h j (by omega), h b (by omega)]
    rfl
/-- a class's page has an object behind Keep -/
theorem keep_full {ps : List Int} {p : Nat} (hp : p < n) (h : ((keepSp n st ps).S p).1 = 1) : ∃ a, hasB ((keepSp n st ps).O a) = true ∧ a / 64 = p := by
  obtain ⟨p1, p2, p3⟩ := ln_parts n (kpSp1 n st (kpS ps)) 8
  have hS : (keepSp n st ps).S p = dlS (kpS1 n st (kpS ps)) (ob n { st with O := kpO st (kpS ps) }) n p := congrFun p1 p
  have hO : (keepSp n st ps).O = kpO st (kpS ps) := p2
  refine Classical.byContradiction fun hn => ?_
  have hno : ∀ a, a / 64 = p → hasB (kpO st (kpS ps) a) = false := fun a ha => by
    cases e : hasB (kpO st (kpS ps) a) with
    | false => rfl
    | true => exact absurd ⟨a, by rw [hO]; exact e, ha⟩ hn
  rw [hS] at h
  unfold dlS at h
  have hb : (kpS1 n st (kpS ps) p).1 = 1 → bareB (kpS1 n st (kpS ps)) (ob n { st with O := kpO st (kpS ps) }) p = true := fun h1 => by
    unfold bareB
    rw [h1]
    have : cntR (ob n { st with O := kpO st (kpS ps) }) (64 * p) (64 * p + 64) = 0 := by
      unfold cntR
      refine cnt_no _ fun j hj => ?_
      by_cases hj2 : 64 * p ≤ j
      · have : ob n { st with O := kpO st (kpS ps) } j = false := by
          unfold ob
          rw [hno j (by omega)]; simp
        rw [this]; simp
      · rw [show decide (64 * p ≤ j) = false from decide_eq_false hj2]; rfl
    rw [this]; rfl
  split at h
  · cases h
  · next hc =>
    have := hb h
    rw [this] at hc
    simp [hp] at hc
/-- a page is used, just where a room's words lie in it -/
theorem us_all {ps : List Int} (hI : Inv n st) (h : ObL (keepSp n st ps) l) {p : Nat} (hp : p < n) : usP l (64 * n) p = decide (((keepSp n st ps).S p).1 ≠ 0) := by
  have hI' := inv_keep (l := ps) hI
  obtain ⟨st', hst⟩ : ∃ q, keepSp n st ps = q := ⟨_, rfl⟩
  have hfull := fun h => keep_full (n := n) (st := st) (ps := ps) hp h
  rw [hst] at h hI' hfull ⊢
  have at_ : ∀ a, hasB (st'.O a) = true → ∃ i, i < l.length ∧ atB l i = (a, st'.O a) := fun a ha => by
    obtain ⟨q, hq, he⟩ := List.mem_map.1 (h.2.2 a ha)
    obtain ⟨i, hi, hqi⟩ := List.getElem_of_mem hq
    have e : atB l i = q := by unfold atB; rw [List.getElem?_eq_getElem hi, hqi]; rfl
    have := (h.2.1 q hq).1
    rw [he] at this
    exact ⟨i, hi, by rw [e, this, ← he]⟩
  rw [Bool.eq_iff_iff, us_iff, decide_eq_true_eq]
  constructor
  · rintro ⟨j, j1, j2, j3⟩ h0
    obtain ⟨i, hi, c1, c2⟩ := ow_cov j3
    obtain ⟨e1, e2⟩ := obl_at h hi
    obtain ⟨b1, b2, b3⟩ := hI'.objs _ e2
    unfold rmL at c2
    rw [← e1] at c2
    rcases b3 with ⟨z1, z2, z3⟩ | ⟨z1, z2, z3⟩
    · rw [room_small z1] at c2
      unfold startB at z3
      simp only [Bool.and_eq_true, decide_eq_true_eq] at z3
      rw [show (atB l i).1 / 64 = p from by omega] at z2
      rw [z2] at h0; cases h0
    · have hz := fits_size b2
      have hk := run_k (s := (st'.O (atB l i).1).2.1) z1 hz.2.2.2
      rw [room_great z1] at c2
      rcases hI'.good ((atB l i).1 / 64) (by omega) with e | ⟨c, _, _, e⟩ | ⟨k, k1, k2, k3, e, k4⟩ | ⟨e, _⟩
      · rw [e] at z3; simp at z3
      · rw [e] at z3; simp at z3
      · rw [e] at z3
        simp only [Prod.mk.injEq] at z3
        by_cases ep : p = (atB l i).1 / 64
        · rw [ep, e] at h0; cases h0
        · rw [k4 p (by omega) (by omega)] at h0; cases h0
      · rw [e] at z3; simp at z3
  · intro hk
    rcases hI'.good p hp with e | ⟨c, _, _, e⟩ | ⟨k, k1, k2, k3, e, k4⟩ | ⟨e, hd, k, d1, d2, d3⟩
    · rw [e] at hk; exact absurd rfl hk
    · obtain ⟨a, a1, a2⟩ := hfull (by rw [e])
      obtain ⟨i, hi, ha⟩ := at_ a a1
      have hr := rm_facts hI' h hi
      exact ⟨a, by omega, a2, ow_some (l := l) (j := a) (i := i) ⟨by rw [ha]; exact Nat.le_refl _, by have := hr.2.2.2; have := hr.1; rw [ha] at *; dsimp only at *; omega⟩ l.length hi⟩
    · have a1 := hI'.heads p hp (by rw [e])
      obtain ⟨i, hi, ha⟩ := at_ _ a1
      have hr := rm_facts hI' h hi
      exact ⟨64 * p, by omega, by omega, ow_some (l := l) (j := 64 * p) (i := i) ⟨by rw [ha]; exact Nat.le_refl _, by have := hr.2.2.2; have := hr.1; rw [ha] at *; dsimp only at *; omega⟩ l.length hi⟩
    · have a1 := hI'.heads hd (by omega) (by rw [d3])
      obtain ⟨i, hi, ha⟩ := at_ _ a1
      obtain ⟨b1, b2, b3⟩ := hI'.objs _ a1
      rw [show 64 * hd / 64 = hd from by omega, d3] at b3
      rcases b3 with ⟨z1, z2, _⟩ | ⟨z1, z2, z3⟩
      · simp at z2
      · simp only [Prod.mk.injEq] at z3
        have hz := fits_size b2
        have hk := run_k (s := (st'.O (64 * hd)).2.1) z1 hz.2.2.2
        have hr := room_great z1
        refine ⟨64 * p, by omega, by omega, ow_some (l := l) (j := 64 * p) (i := i) ⟨by rw [ha]; dsimp only; omega, ?_⟩ l.length hi⟩
        unfold rmL
        rw [ha]
        dsimp only
        rw [hr]
        omega
end
theorem lk_row {w : World} {G m n : Nat} {st : Sp} {c i a : Nat} {v : Int} (h : Row w G 3 m (fun j => .int .i64 (lkI n st c i j))) (ha : (frL n st (c : Int) (64 * n))[i]? = some (a : Int)) (hv : linkV (nf n st (c : Int) (a + 1)) = v) : Row (w.setCell ⟨G, a, none⟩ (.int .i64 v)) G 3 m (fun j => .int .i64 (lkI n st c (i + 1) j)) := by
  refine (h.set a (.int .i64 v)).congr fun j _ => ?_
  show (if j = a then _ else _) = _
  rw [← lk_step ha j, hv]
  by_cases e : j = a
  · rw [if_pos e, if_pos e]
  · rw [if_neg e, if_neg e]
theorem us_row {w : World} {G n m : Nat} {l : List (Nat × Blk)} (h : Row w G 4 n (fun p => .bool (usP l m p))) {q : Nat} (hq : m / 64 = q) {v : Bool} (hv : (usP l m q || decide (0 ≤ owTo l l.length m)) = v) : Row (w.setCell ⟨G, q, none⟩ (.bool v)) G 4 n (fun p => .bool (usP l (m + 1) p)) := by
  refine (h.set q (.bool v)).congr fun p _ => ?_
  show (if p = q then _ else _) = _
  by_cases e : p = q
  · rw [if_pos e, e, ← hv]
    show _ = Value.bool (usP l m q || (decide (m / 64 = q) && decide (0 ≤ owTo l l.length m)))
    rw [decide_eq_true hq]; rfl
  · rw [if_neg e]
    show _ = Value.bool (usP l m p || (decide (m / 64 = p) && decide (0 ≤ owTo l l.length m)))
    rw [decide_eq_false (by omega)]; simp
end Go.Proofs.YtjbbkeoolodeaabDoor
