import Derived.Test.YtkghabmgofgclaaDoorQaf
import Derived.Test.YtkghabmgofgclaaDoorQai
namespace Go.Proofs.YtkghabmgofgclaaDoor
set_option linter.unusedVariables false
set_option linter.unusedSimpArgs false

/-- an instruction that waits: a way has come to it, none has gone on from it -/
def wt (D : List Int) (G : List Bool) (j : Nat) : Prop := ∃ d, D[j]? = some d ∧ 0 ≤ d ∧ G[j]? = some false
/-- the depths, those gone on from, the list of those that wait, how far has been looked -/
def RI (n : Nat) (D : List Int) (G : List Bool) (R : List Nat) (i : Nat) : Prop := WO n (D, R) ∧ G.length = n ∧ (∀ j, j ∈ R ↔ wt D G j) ∧ (∀ j ∈ R, i ≤ j) ∧ ∀ j : Nat, G[j]? = some true → ∃ d, D[j]? = some d ∧ 0 ≤ d
variable {n i : Nat} {D : List Int} {G : List Bool} {R : List Nat}
theorem RI.start (hn : 0 < n) : RI n (wy0 n).1 (List.replicate n false) (wy0 n).2 0 := by
  have hw := (wo_start hn).1
  refine ⟨hw, by simp, fun j => ?_, fun j _ => Nat.zero_le _, fun j hj => ?_⟩
  · constructor
    · intro hj
      obtain ⟨d, h1, h2⟩ := hw.2.2.2 j hj
      exact ⟨d, h1, h2, by rw [List.getElem?_replicate, if_pos (hw.in hj)]⟩
    · rintro ⟨d, h1, h2, _⟩
      cases j with
      | zero => simp [wy0]
      | succ j =>
        simp [wy0, List.getElem?_set] at h1
        rw [List.getElem?_replicate] at h1
        split at h1
        · cases h1; omega
        · cases h1
  · rw [List.getElem?_replicate] at hj
    split at hj <;> cases hj
theorem RI.skip (h : RI n D G R i) (hi : ¬ wt D G i) : RI n D G R (i + 1) := by
  refine ⟨h.1, h.2.1, h.2.2.1, fun j hj => ?_, h.2.2.2.2⟩
  have h1 := h.2.2.2.1 j hj
  rcases Nat.lt_or_ge i j with q | q
  · exact q
  · obtain rfl : j = i := by omega
    exact absurd ((h.2.2.1 j).1 hj) hi
/-- the least one is the one that is found -/
theorem RI.head (h : RI n D G R i) (hi : wt D G i) : ∃ R', R = i :: R' ∧ i ∉ R' := by
  have hm := (h.2.2.1 i).2 hi
  have hs := h.1.2.2.1
  cases R with
  | nil => cases hm
  | cons a R =>
    have ha := h.2.2.2.1 a (List.mem_cons_self ..)
    rw [List.pairwise_cons] at hs
    rcases List.mem_cons.1 hm with e | e
    · subst e
      exact ⟨R, rfl, fun q => Nat.lt_irrefl _ (hs.1 _ q)⟩
    · have := hs.1 i e
      omega
theorem set_bool {j k : Nat} : (G.set j true)[k]? = some false ↔ k ≠ j ∧ G[k]? = some false := by
  rw [List.getElem?_set]
  constructor
  · intro h
    split at h
    · split at h <;> cases h
    · exact ⟨by omega, h⟩
  · rintro ⟨h1, h2⟩
    rw [if_neg (by omega)]
    exact h2
theorem set_bool_t {j k : Nat} (h : (G.set j true)[k]? = some true) : k = j ∨ G[k]? = some true := by
  rw [List.getElem?_set] at h
  split at h
  · exact .inl (by omega)
  · exact .inr h
/-- it is taken -/
theorem RI.take {R' : List Nat} (h : RI n D G (i :: R') i) (hn : i ∉ R') : RI n D (G.set i true) R' (i + 1) := by
  have hm := (h.2.2.1 i).1 (List.mem_cons_self ..)
  refine ⟨h.1.tail, by rw [List.length_set]; exact h.2.1, fun j => ?_, fun j hj => ?_, fun j hj => ?_⟩
  · constructor
    · intro hj
      obtain ⟨d, q1, q2, q3⟩ := (h.2.2.1 j).1 (List.mem_cons.2 (.inr hj))
      exact ⟨d, q1, q2, set_bool.2 ⟨fun e => hn (e ▸ hj), q3⟩⟩
    · rintro ⟨d, q1, q2, q3⟩
      obtain ⟨q4, q5⟩ := set_bool.1 q3
      rcases List.mem_cons.1 ((h.2.2.1 j).2 ⟨d, q1, q2, q5⟩) with e | e
      · exact absurd e q4
      · exact e
  · have := h.2.2.2.1 j (List.mem_cons.2 (.inr hj))
    rcases Nat.lt_or_ge i j with q | q
    · exact q
    · obtain rfl : j = i := by omega
      exact absurd hj hn
  · rcases set_bool_t hj with e | e
    · subst e
      obtain ⟨d, q1, q2, _⟩ := hm
      exact ⟨d, q1, q2⟩
    · exact h.2.2.2.2 j e
/-- on to an instruction: what the document's own writes there, and what of it the program's list says -/
theorem RI.on {t : Nat} {d x : Int} {nx : Nat} (h : RI n D G R nx) (ht : D[t]? = some x) (h0 : 0 ≤ d) (h1 : d ≤ 64) (hx : ¬ (0 ≤ x ∧ x ≠ d)) : ∃ R2, onF (D, R) t d = some (D.set t d, R2) ∧ RI n (D.set t d) G R2 (if t < nx ∧ G[t]? = some false then t else nx) := by
  have hxr := h.1.2.1 t x ht
  have htn : t < n := by have := (List.getElem?_eq_some_iff.1 ht).1; have := h.1.1; simp only [] at *; omega
  by_cases e : x = -1
  · subst e
    have ho : onF (D, R) t d = some (D.set t d, insF t R) := by unfold onF; rw [if_pos ht]
    have hg : G[t]? = some false := by
      obtain ⟨b, hb⟩ : ∃ b, G[t]? = some b := ⟨_, List.getElem?_eq_getElem (by have := h.2.1; omega)⟩
      cases b with
      | false => exact hb
      | true =>
        obtain ⟨d', q1, q2⟩ := h.2.2.2.2 t hb
        rw [ht] at q1
        cases q1
        omega
    refine ⟨insF t R, ho, (on_ok h.1 h0 h1 ho).1, h.2.1, fun j => ?_, fun j hj => ?_, fun j hj => ?_⟩
    · rw [ins_mem]
      unfold wt
      rw [List.getElem?_set]
      constructor
      · rintro (rfl | hj)
        · exact ⟨d, by rw [if_pos rfl, if_pos (by have := h.1.1; simp only [] at *; omega)], h0, hg⟩
        · obtain ⟨d', q1, q2, q3⟩ := (h.2.2.1 j).1 hj
          refine ⟨d', ?_, q2, q3⟩
          rw [if_neg (fun e => by subst e; rw [ht] at q1; cases q1; omega)]
          exact q1
      · rintro ⟨d', q1, q2, q3⟩
        by_cases e : t = j
        · exact .inl e.symm
        · rw [if_neg e] at q1
          exact .inr ((h.2.2.1 j).2 ⟨d', q1, q2, q3⟩)
    · rcases ins_mem.1 hj with rfl | hj
      · split
        · exact Nat.le_refl _
        · rename_i q
          have : ¬ j < nx := fun z => q ⟨z, hg⟩
          omega
      · have := h.2.2.2.1 j hj
        split <;> omega
    · obtain ⟨d', q1, q2⟩ := h.2.2.2.2 j hj
      rw [List.getElem?_set]
      by_cases e : t = j
      · subst e
        rw [hg] at hj
        cases hj
      · rw [if_neg e]
        exact ⟨d', q1, q2⟩
  · have hxd : x = d := by
      have : 0 ≤ x := by omega
      exact Classical.byContradiction fun q => hx ⟨this, q⟩
    subst hxd
    have hs : D.set t x = D := by
      apply List.ext_getElem?
      intro k
      rw [List.getElem?_set]
      split
      · rename_i e'
        subst e'
        rw [if_pos (List.getElem?_eq_some_iff.1 ht).1, ht]
      · rfl
    have ho : onF (D, R) t x = some (D.set t x, R) := by
      unfold onF
      rw [if_neg (by simp only []; rw [ht]; intro q; exact e (Option.some.inj q)), if_pos ht, hs]
    refine ⟨R, ho, ?_⟩
    rw [hs]
    refine ⟨h.1, h.2.1, h.2.2.1, fun j hj => ?_, h.2.2.2.2⟩
    have h2 := h.2.2.2.1 j hj
    split
    · omega
    · exact h2
theorem on_none {t : Nat} {d x : Int} (ht : D[t]? = some x) (hx : 0 ≤ x ∧ x ≠ d) : onF (D, R) t d = none := by
  unfold onF
  rw [if_neg (by simp only []; rw [ht]; intro q; have := Option.some.inj q; omega), if_neg (by simp only []; rw [ht]; intro q; exact hx.2 (Option.some.inj q))]
/-- at the end no one waits -/
theorem RI.end (h : RI n D G R n) : R = [] := by
  cases R with
  | nil => rfl
  | cons a R =>
    have h1 := h.2.2.2.1 a (List.mem_cons_self ..)
    have h2 := h.1.in (List.mem_cons_self ..)
    omega
/-- how much is left to do -/
def cntF (G : List Bool) : Nat := (G.filter fun b => !b).length
theorem cnt_set : ∀ {G : List Bool} {i : Nat}, G[i]? = some false → cntF (G.set i true) + 1 = cntF G
  | [], i, h => by simp at h
  | b :: G, 0, h => by
    simp at h
    subst h
    simp [cntF]
  | b :: G, i + 1, h => by
    have := cnt_set (G := G) (i := i) (by simpa using h)
    unfold cntF at *
    rw [List.set_cons_succ, List.filter_cons, List.filter_cons]
    split
    · simp only [List.length_cons]; omega
    · exact this
end Go.Proofs.YtkghabmgofgclaaDoor
namespace Go.Proofs.YtkghabmgofgclaaDoor
open Go.RowKit
set_option linter.unusedVariables false
set_option linter.unusedSimpArgs false

set_option maxHeartbeats 4000000 in
theorem rtakes_1 (op a : Int) (x : Int) (ta : Option Addr) (nt tc : Nat) (fa : Option Addr) (nf fc : Nat) (w : World) (h : op = 1 ∨ op = 2 ∨ op = 3 ∨ op = 4 ∨ op = 5 ∨ op = 6 ∨ op = 7 ∨ op = 8 ∨ op = 9 ∨ op = 10 ∨ op = 11 ∨ op = 12 ∨ op = 13 ∨ op = 14 ∨ op = 15 ∨ op = 19 ∨ op = 20 ∨ op = 21 ∨ op = 22) : Calls Tryd.prog 73 #[.agg #[.int .i64 x, .slice ta nt tc, .slice fa nf fc], .agg #[.int .i64 op, .int .i64 a]] w fun x w' => x = .returned (.int .i64 (tkS op)) ∧ Out 0 0 w w' := by
  have HO := hid_mk (((Out.refl 0 0 w).alloc (.cells #[.int .i64 x, .slice ta nt tc, .slice fa nf fc] 25)).alloc (.cells #[.int .i64 op, .int .i64 a] 61))
  rcases h with rfl | rfl | rfl | rfl | rfl | rfl | rfl | rfl | rfl | rfl | rfl | rfl | rfl | rfl | rfl | rfl | rfl | rfl | rfl
  all_goals
    go_enter Tryd.func73, Tryd.ntmps73
    go_wp2
    go_ret
    exact ⟨rfl, HO.out⟩
end Go.Proofs.YtkghabmgofgclaaDoor
namespace Go.Proofs.YtkghabmgofgclaaDoor
open Go.RowKit
set_option linter.unusedVariables false
set_option linter.unusedSimpArgs false

set_option maxHeartbeats 4000000 in
theorem rtakes_2 (op a : Int) (x : Int) (ta : Option Addr) (nt tc : Nat) (fa : Option Addr) (nf fc : Nat) (w : World) (h : op = 30 ∨ op = 31 ∨ op = 32 ∨ op = 33 ∨ op = 34 ∨ op = 35 ∨ op = 36 ∨ op = 37 ∨ op = 38 ∨ op = 39 ∨ op = 40 ∨ op = 41 ∨ op = 42 ∨ op = 43 ∨ op = 44 ∨ op = 45 ∨ op = 46 ∨ op = 47 ∨ op = 48 ∨ op = 49 ∨ op = 50 ∨ op = 51 ∨ op = 52) : Calls Tryd.prog 73 #[.agg #[.int .i64 x, .slice ta nt tc, .slice fa nf fc], .agg #[.int .i64 op, .int .i64 a]] w fun x w' => x = .returned (.int .i64 (tkS op)) ∧ Out 0 0 w w' := by
  have HO := hid_mk (((Out.refl 0 0 w).alloc (.cells #[.int .i64 x, .slice ta nt tc, .slice fa nf fc] 25)).alloc (.cells #[.int .i64 op, .int .i64 a] 61))
  rcases h with rfl | rfl | rfl | rfl | rfl | rfl | rfl | rfl | rfl | rfl | rfl | rfl | rfl | rfl | rfl | rfl | rfl | rfl | rfl | rfl | rfl | rfl | rfl
  all_goals
    go_enter Tryd.func73, Tryd.ntmps73
    go_wp2
    go_ret
    exact ⟨rfl, HO.out⟩
end Go.Proofs.YtkghabmgofgclaaDoor
