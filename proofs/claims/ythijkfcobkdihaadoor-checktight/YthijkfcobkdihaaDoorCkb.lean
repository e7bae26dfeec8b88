/- package check: what is known of a program that is checked -/
import Derived.Test.YthijkfcobkdihaaDoorCka
namespace Go.Proofs.YthijkfcobkdihaaDoor
set_option linter.unusedVariables false
set_option linter.unusedSimpArgs false

theorem ptI_ok {rt : Int × Int → Bool} {n : Nat} : ∀ {i : Nat} {l : List (Int × Int)}, ptI rt n i l = none → ∀ x ∈ l, rt x = true ∧ (juB x.1 = true → x.2 < (n : Int))
  | _, [], _, x, hx => by cases hx
  | i, y :: l, h, x, hx => by
    unfold ptI at h
    split at h
    · cases h
    split at h
    · cases h
    rename_i h1 h2
    rcases List.mem_cons.1 hx with rfl | hx
    · refine ⟨by simpa using h1, fun q => ?_⟩
      have : ¬ (n : Int) ≤ x.2 := fun z => h2 ⟨q, z⟩
      omega
    · exact ptI_ok h x hx
theorem ptF_ok {g : Int} {nt nf : Nat} : ∀ {k : Nat} {l : List (Int × Int × Int × List (Int × Int))}, ptF g nt nf k l = none → ∀ f ∈ l, f.1 ≤ f.2.1 ∧ f.2.2.2 ≠ [] ∧ ∀ x ∈ f.2.2.2, rtB g nt nf f.2.1 f.2.2.1 x = true ∧ (juB x.1 = true → x.2 < (f.2.2.2.length : Int))
  | _, [], _, f, hf => by cases hf
  | k, y :: l, h, f, hf => by
    unfold ptF at h
    split at h
    · cases h
    rename_i h1
    split at h
    · cases h
    rename_i h2
    rcases List.mem_cons.1 hf with rfl | hf
    · exact ⟨by omega, fun q => h1 (.inr q), ptI_ok h2⟩
    · exact ptF_ok h f hf
theorem gn_ok {fs : List (Int × Int × Int × List (Int × Int))} : ∀ {k : Nat} {S : List Int} {Ds : List (List Int)} {l : List (Int × Int × Int × List (Int × Int))} {S' : List Int} {Ds' : List (List Int)}, gnF fs k S Ds l = .inr (S', Ds') →
    ∃ T E, S' = S ++ T ∧ Ds' = Ds ++ E ∧ T.length = l.length ∧ E.length = l.length ∧ ∀ (j : Nat) f, l[j]? = some f → ∃ D, E[j]? = some D ∧ wyA fs f.2.2.2 = .inr D ∧ T[j]? = some (f.2.1 + mxL D)
  | k, S, Ds, [], S', Ds', h => by
    simp only [gnF, Sum.inr.injEq, Prod.mk.injEq] at h
    exact ⟨[], [], by rw [List.append_nil]; exact h.1.symm, by rw [List.append_nil]; exact h.2.symm, rfl, rfl, fun j f q => by simp at q⟩
  | k, S, Ds, f :: l, S', Ds', h => by
    unfold gnF at h
    split at h
    · cases h
    rename_i D hD
    obtain ⟨T, E, h1, h2, h3, h4, h5⟩ := gn_ok h
    refine ⟨(f.2.1 + mxL D) :: T, D :: E, by rw [h1]; simp, by rw [h2]; simp, by simp [h3], by simp [h4], fun j f' q => ?_⟩
    cases j with
    | zero =>
      simp only [List.getElem?_cons_zero, Option.some.injEq] at q
      subst q
      exact ⟨D, rfl, hD, rfl⟩
    | succ j => exact h5 j f' (by simpa using q)
theorem ch_ok {x : Int} {nt : Nat} {fs : List (Int × Int × Int × List (Int × Int))} {S : List Int} {Ds : List (List Int)} (h : chF x nt fs = .inr (S, Ds)) :
    (∀ f ∈ fs, f.1 ≤ f.2.1 ∧ f.2.2.2 ≠ [] ∧ ∀ y ∈ f.2.2.2, rtB x nt fs.length f.2.1 f.2.2.1 y = true ∧ (juB y.1 = true → y.2 < (f.2.2.2.length : Int))) ∧ S.length = fs.length ∧ Ds.length = fs.length ∧
    ∀ (j : Nat) f, fs[j]? = some f → ∃ D, Ds[j]? = some D ∧ wyA fs f.2.2.2 = .inr D ∧ S[j]? = some (f.2.1 + mxL D) := by
  unfold chF at h
  split at h
  · cases h
  split at h
  · cases h
  rename_i h1 h2
  obtain ⟨T, E, q1, q2, q3, q4, q5⟩ := gn_ok h
  simp only [List.nil_append] at q1 q2
  subst q1 q2
  exact ⟨ptF_ok h2, q3, q4, q5⟩
theorem mx_ge : ∀ {D : List Int} {j : Nat} {d : Int}, D[j]? = some d → d ≤ mxL D
  | [], j, d, h => by simp at h
  | x :: D, 0, d, h => by
    have : x = d := by simpa using h
    subst this
    unfold mxL
    omega
  | x :: D, j + 1, d, h => by
    have := mx_ge (D := D) (j := j) (d := d) (by simpa using h)
    unfold mxL
    omega
theorem mx_nn : ∀ (D : List Int), 0 ≤ mxL D
  | [] => by simp [mxL]
  | x :: D => by
    have := mx_nn D
    unfold mxL
    omega
theorem mx_le {n : Int} (hn : 0 ≤ n) : ∀ {D : List Int}, (∀ (j : Nat) d, D[j]? = some d → d ≤ n) → mxL D ≤ n
  | [], _ => by simpa [mxL] using hn
  | x :: D, h => by
    have h1 := h 0 x rfl
    have h2 := mx_le hn (D := D) fun j d q => h (j + 1) d (by simpa using q)
    unfold mxL
    omega
theorem mx_app (D : List Int) (x : Int) : mxL (D ++ [x]) = max (mxL D) x ∨ (x < 0 ∧ mxL (D ++ [x]) = mxL D) := by
  induction D with
  | nil => simp only [List.nil_append, mxL]; omega
  | cons y D ih =>
    simp only [List.cons_append, mxL]
    have := mx_nn D
    omega
theorem mx_take {D : List Int} {k : Nat} {x : Int} (h : D[k]? = some x) : mxL (D.take (k + 1)) = max (mxL (D.take k)) x := by
  rw [List.take_add_one, h]
  simp only [Option.toList]
  have := mx_nn (D.take k)
  rcases mx_app (D.take k) x with e | ⟨h1, e⟩
  · exact e
  · rw [e]; omega
/-- the depths of a function that is checked -/
def Dep (fs : List (Int × Int × Int × List (Int × Int))) (C : List (Int × Int)) (D : List Int) : Prop := D.length = C.length ∧ (∀ (j : Nat) d, D[j]? = some d → -1 ≤ d ∧ d ≤ 64) ∧ D[0]? = some 0 ∧ (∀ (i : Nat) d, D[i]? = some d → d ≠ -1 → Thr (tkV fs) C D i) ∧ ∀ (j : Nat) d, D[j]? = some d → d ≠ -1 → Led C D j
theorem dep_of {fs : List (Int × Int × Int × List (Int × Int))} {C : List (Int × Int)} {D : List Int} (h : C ≠ []) (e : wyA fs C = .inr D) : Dep fs C D := by
  obtain ⟨h1, h2, h3, h4⟩ := wyA_end h e
  exact ⟨h1.1, h1.2.1, h2, fun i d q r => h3 i d q r (by simp), h4⟩
end Go.Proofs.YthijkfcobkdihaaDoor
