/- the law CodeLimits: its programs -/
import Derived.Test.YthijkfcobkdihaaDoorUva
namespace Go.Proofs.YthijkfcobkdihaaDoor
open Go.RowKit
set_option linter.unusedVariables false
set_option linter.unusedSimpArgs false

def oneL : List (Int × Int × Int × List (Int × Int)) := [(0, 0, 0, [])]
def zL (m : Nat) : List Int := List.replicate m 0
def oneC : Array Value := #[.int .i64 0, .int .i64 0, .int .i64 0, .slice none 0 0]
theorem enc_len (x : Int) (ts : List (List Int)) (fs : List (Int × Int × Int × List (Int × Int))) : (encP (x, ts, fs)).length = 4 + (numB x.toNat).length + (numB ts.length).length + (ts.flatMap encT).length + (numB fs.length).length + (fs.flatMap encF).length := by
  simp only [encP, List.length_append, List.length_cons, List.length_nil]; omega
theorem n1_len {n : Nat} (h : n < 128) : (numB n).length = 1 := by rw [numB_lt h]; rfl
theorem n2_len {n : Nat} (h : 128 ≤ n) (h2 : n < 16384) : (numB n).length = 2 := by rw [numB_ge h, List.length_cons, n1_len (by omega)]
theorem ok_f : okF (0, 0, 0, []) := ⟨by simp, by simp, by simp, by simp, by intro x hx; cases hx⟩
theorem encF0 : (encF (0, 0, 0, [])).length = 4 := by simp [encF, n1_len]
theorem ok_one {x : Int} {ts : List (List Int)} (hx : 0 ≤ x ∧ x ≤ 64) (h1 : ts.length ≤ 64) (h2 : ∀ t ∈ ts, t.length ≤ 4096) : okP (x, ts, oneL) := by
  refine ⟨hx, h1, h2, by simp [oneL], ?_⟩
  intro f hf
  simp [oneL] at hf
  subst hf
  exact ok_f
theorem one_len : (oneL.flatMap encF).length = 4 := by simp [oneL, encF0]
theorem rpl_len {α β : Type} (g : α → List β) (y : α) : ∀ n : Nat, ((List.replicate n y).flatMap g).length = n * (g y).length
  | 0 => by simp
  | n + 1 => by rw [List.replicate_succ, List.flatMap_cons, List.length_append, rpl_len g y n, Nat.succ_mul]; omega
theorem zT (m : Nat) : (encT (zL m)).length = (numB m).length + m := by unfold encT zL; rw [List.length_append, List.length_replicate]
theorem y_zero {P : Int × List (List Int) × List (Int × Int × Int × List (Int × Int))} (h : wrE P = 0) : (wrE P == 0) = true := by rw [h]; rfl
theorem n_form {P : Int × List (List Int) × List (Int × Int × Int × List (Int × Int))} (h : ¬ okP P) : (wrE P == 0) = false := by rw [(wr_form h).1]; rfl
theorem y1 : (wrE (64, [], oneL) == 0) = true := y_zero (wr_ok (ok_one (by decide) (by simp) (by simp)) (by rw [enc_len, one_len]; simp [n1_len, oneL])).1
theorem n1 : (wrE (65, [], oneL) == 0) = false := n_form fun h => by have := h.1.2; simp at this
theorem n2 : (wrE (-1, [], oneL) == 0) = false := n_form fun h => by have := h.1.1; simp at this
theorem zL_len (m : Nat) : (zL m).length = m := List.length_replicate
theorem m0 : (numB (0 : Int).toNat).length = 1 := n1_len (by decide)
theorem m1 : (numB oneL.length).length = 1 := n1_len (by decide)
theorem y2 : (wrE (0, List.replicate 64 [], oneL) == 0) = true := by
  refine y_zero (wr_ok (ok_one (by decide) (by rw [List.length_replicate]; decide) (by intro t ht; rw [List.eq_of_mem_replicate ht]; simp)) ?_).1
  rw [enc_len, one_len, rpl_len encT [] 64, m0, m1, List.length_replicate, n1_len (n := 64) (by decide)]
  have : (encT []).length = 1 := by simp [encT, n1_len]
  omega
theorem n3 : (wrE (0, List.replicate 65 [], oneL) == 0) = false := n_form fun h => by have := h.2.1; simp only [List.length_replicate] at this; omega
theorem y3 : (wrE (0, [zL 4096], oneL) == 0) = true := by
  refine y_zero (wr_ok (ok_one (by decide) (by show 1 ≤ 64; decide) (by intro t ht; rw [List.mem_singleton.1 ht, zL_len]; exact Nat.le_refl _)) ?_).1
  rw [enc_len, one_len, List.flatMap_cons, List.flatMap_nil, List.append_nil, zT 4096, m0, m1, n2_len (n := 4096) (by decide) (by decide), n1_len (n := [zL 4096].length) (by show 1 < 128; decide)]
  decide
theorem n4 : (wrE (0, [zL 4097], oneL) == 0) = false := n_form fun h => by
  have := h.2.2.1 (zL 4097) (List.mem_cons_self ..)
  unfold okT at this
  rw [zL_len] at this
  omega
theorem y4 : (wrE (0, [], List.replicate 64 (0, 0, 0, [])) == 0) = true := by
  refine y_zero (wr_ok ⟨by decide, by simp, by simp, by simp only [List.length_replicate]; decide, by intro f hf; rw [List.eq_of_mem_replicate hf]; exact ok_f⟩ ?_).1
  rw [enc_len, rpl_len encF (0, 0, 0, []) 64, encF0, m0, List.length_replicate, n1_len (n := 64) (by decide)]
  simp [n1_len]
theorem n5 : (wrE (0, [], List.replicate 65 (0, 0, 0, [])) == 0) = false := n_form fun h => by have := h.2.2.2.1.2; simp at this
theorem n6 : (wrE (0, [], []) == 0) = false := n_form fun h => by have := h.2.2.2.1.1; simp at this
theorem y5 : (wrE (0, [], [(8, 64, 64, [])]) == 0) = true := y_zero (wr_ok ⟨by decide, by simp, by simp, by simp, by intro f hf; simp at hf; subst hf; exact ⟨by simp, by simp, by simp, by simp, by simp⟩⟩ (by rw [enc_len]; simp [n1_len, encF])).1
theorem n7 : (wrE (0, [], [(9, 0, 0, [])]) == 0) = false := n_form fun h => by have := (h.2.2.2.2 (9, 0, 0, []) (by simp)).1.2; simp at this
theorem n8 : (wrE (0, [], [(0, 65, 0, [])]) == 0) = false := n_form fun h => by have := (h.2.2.2.2 (0, 65, 0, []) (by simp)).2.1.2; simp at this
theorem n9 : (wrE (0, [], [(0, 0, 65, [])]) == 0) = false := n_form fun h => by have := (h.2.2.2.2 (0, 0, 65, []) (by simp)).2.2.1.2; simp at this
theorem n10 : (wrE (0, [], [(-1, 0, 0, [])]) == 0) = false := n_form fun h => by have := (h.2.2.2.2 (-1, 0, 0, []) (by simp)).1.1; simp at this
theorem ok_11 : okI (11, 0) := by unfold okI opS; simp
theorem y6 : (wrE (0, [], [(0, 0, 0, List.replicate 4096 (11, 0))]) == 0) = true := by
  refine y_zero (wr_ok ⟨by decide, by simp, by simp, by show 1 ≤ 1 ∧ 1 ≤ 64; decide, ?_⟩ ?_).1
  · intro f hf
    rw [List.mem_singleton.1 hf]
    exact ⟨by simp, by simp, by simp, by simp only [List.length_replicate]; exact Nat.le_refl _, by intro x hx; rw [List.eq_of_mem_replicate hx]; exact ok_11⟩
  · rw [enc_len]
    have : (encI (11, 0)).length = 1 := by simp [encI, opB, opS]
    simp only [List.flatMap_cons, List.flatMap_nil, List.append_nil, encF, List.length_append, rpl_len encI (11, 0) 4096, this, List.length_replicate, List.length_cons, List.length_nil]
    rw [n2_len (n := 4096) (by decide) (by decide), m0, n1_len (n := 0) (by decide), n1_len (n := 0 + 1) (by decide)]
    decide
theorem n11 : (wrE (0, [], [(0, 0, 0, List.replicate 4096 (11, 0) ++ [(11, 0)])]) == 0) = false := n_form fun h => by
  have := (h.2.2.2.2 _ (List.mem_cons_self ..)).2.2.2.1
  simp only [List.length_append, List.length_replicate, List.length_cons, List.length_nil] at this
  omega
theorem y7 : (wrE (0, [], [(0, 0, 0, [(2, 2097151)])]) == 0) = true := by
  refine y_zero (wr_ok ⟨by decide, by simp, by simp, by simp, ?_⟩ ?_).1
  · intro f hf
    simp only [List.mem_cons, List.not_mem_nil, or_false] at hf
    subst hf
    exact ⟨by simp, by simp, by simp, by simp, by intro x hx; simp at hx; subst hx; unfold okI opS; simp⟩
  · rw [enc_len]
    have : (encI (2, 2097151)).length ≤ 11 := by
      have : (numB (2097151 : Int).toNat).length ≤ 10 := numB_len (k := 9) (by decide)
      simp only [encI, opB, opS, List.length_cons]
      simpa using this
    simp only [List.flatMap_cons, List.flatMap_nil, List.append_nil, encF, List.length_append, List.length_cons, List.length_nil]
    have a1 : (numB (0 : Int).toNat).length = 1 := n1_len (by decide)
    have a2 : (numB (0 + 1)).length = 1 := n1_len (by decide)
    have a3 : (numB 0).length = 1 := n1_len (by decide)
    omega
theorem n_ins {op a : Int} (h : ¬ okI (op, a)) : (wrE (0, [], [(0, 0, 0, [(op, a)])]) == 0) = false := n_form fun q => h ((q.2.2.2.2 _ (List.mem_cons_self ..)).2.2.2.2 _ (List.mem_cons_self ..))
theorem n12 : ¬ okI (2, 2097152) := by unfold okI opS; simp
theorem n13 : ¬ okI (1, 1152921504606846976) := by unfold okI opS; simp
theorem n14 : ¬ okI (11, 1) := by unfold okI opS; simp
theorem n15 {v : Nat} (h : v < 7) {z : Int} (hz : 23 + (v : Int) = z) : ¬ okI (z, 0) := fun q => q.1 (by
  unfold opS
  rw [if_neg (by simp; omega), if_neg (by simp; omega), if_neg (by simp; omega), if_neg (by simp; omega)])
theorem n16 : ¬ okI (76, 0) := by unfold okI opS; simp
def tsL (r : List (List Int)) : List (List Int) := List.replicate 15 (zL 4096) ++ r
theorem ts_len (r : List (List Int)) (hr : r.length ≤ 1) : (encP (0, tsL r, oneL)).length = 61481 + (r.flatMap encT).length := by
  have h : (tsL r).length < 128 := by unfold tsL; rw [List.length_append, List.length_replicate]; omega
  rw [enc_len, one_len, m0, m1, n1_len h, tsL, List.flatMap_append, List.length_append, rpl_len encT (zL 4096) 15, zT 4096, n2_len (n := 4096) (by decide) (by decide)]
  omega
theorem ts_ok {r : List (List Int)} (hr : r.length ≤ 1) (h : ∀ t ∈ r, t.length ≤ 4096) : okP (0, tsL r, oneL) := ok_one (by decide) (by unfold tsL; rw [List.length_append, List.length_replicate]; omega) (by
  intro t ht
  rcases List.mem_append.1 ht with q | q
  · rw [List.eq_of_mem_replicate q, zL_len]; exact Nat.le_refl _
  · exact h t q)
theorem y8 : wrE (0, tsL [], oneL) = 0 ∧ (wrB (0, tsL [], oneL)).length = 61481 := by
  have h := wr_ok (ts_ok (r := []) (by simp) (by simp)) (by rw [ts_len [] (by simp)]; simp)
  rw [h.2, ts_len [] (by simp)]
  exact ⟨h.1, by simp⟩
theorem one_t (m : Nat) (h : 128 ≤ m) (h2 : m < 16384) : ([zL m].flatMap encT).length = m + 2 := by
  rw [List.flatMap_cons, List.flatMap_nil, List.append_nil, zT, n2_len h h2]; omega
theorem y9 : wrE (0, tsL [zL 4053], oneL) = 0 ∧ (wrB (0, tsL [zL 4053], oneL)).length = 65536 := by
  have h := wr_ok (ts_ok (r := [zL 4053]) (by simp) (by intro t ht; rw [List.mem_singleton.1 ht, zL_len]; decide)) (by rw [ts_len _ (by simp), one_t _ (by decide) (by decide)]; decide)
  rw [h.2, ts_len _ (by simp), one_t _ (by decide) (by decide)]
  exact ⟨h.1, rfl⟩
theorem n17 : wrE (0, tsL [zL 4054], oneL) = 2 ∧ wrB (0, tsL [zL 4054], oneL) = [] := wr_long (ts_ok (r := [zL 4054]) (by simp) (by intro t ht; rw [List.mem_singleton.1 ht, zL_len]; decide)) (by rw [ts_len _ (by simp), one_t _ (by decide) (by decide)]; decide)
end Go.Proofs.YthijkfcobkdihaaDoor
