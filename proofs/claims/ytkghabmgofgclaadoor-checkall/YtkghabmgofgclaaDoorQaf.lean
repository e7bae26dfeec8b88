import Derived.Test.YtkghabmgofgclaaDoorQaa
import Derived.Test.YtkghabmgofgclaaDoorQae
import Derived.Shelf.Spec.SlicesInsert
import Derived.Shelf.Spec.SlicesInsertGrow
namespace Go.Proofs.YtkghabmgofgclaaDoor
set_option linter.unusedVariables false
set_option linter.unusedSimpArgs false

/-- the captures of the function of a number -/
def cpV (fs : List (Int × Int × Int × List (Int × Int))) (a : Int) : Int := ((fs[a.toNat]?).map fun f => f.2.2.1).getD 0
/-- what an instruction takes, where that does not hang on its operand -/
def tkS (op : Int) : Int :=
  if op ∈ [1, 2, 3, 4, 5, 6, 8, 9, 14, 70] then 0
  else if op ∈ [7, 10, 11, 12, 15, 19, 20, 21, 22, 31, 32, 35, 36, 41, 42, 46, 47, 59, 60, 61, 62, 64, 65, 68, 69, 74, 75] then 1
  else if op ∈ [40, 71, 72] then 3 else 2
def tkV (fs : List (Int × Int × Int × List (Int × Int))) (x : Int × Int) : Int := if x.1 = 16 then cpV fs x.2 else if x.1 = 17 ∨ x.1 = 18 then x.2 + 1 else tkS x.1
/-- what it puts -/
def ptV (op : Int) : Int := if op ∈ [7, 10, 11, 14, 15, 18, 19, 21, 22] then 0 else if op ∈ [12, 13] then 2 else 1
/-- does it go on at the next one; does it jump -/
def goB (op : Int) : Bool := !(op == 14 || op == 18 || op == 19 || op == 21 || op == 22)
def juB (op : Int) : Bool := op == 14 || op == 15
/-- is an operand right -/
def rtB (g : Int) (nt nf : Nat) (lo ca : Int) (x : Int × Int) : Bool :=
  if x.1 = 2 then decide (x.2 ≤ 1114111 ∧ (x.2 < 55296 ∨ 57343 < x.2)) else if x.1 = 3 then decide (x.2 ≤ 4) else if x.1 = 4 then decide (x.2 < nt)
  else if x.1 = 6 ∨ x.1 = 7 then decide (x.2 < lo) else if x.1 = 8 then decide (x.2 < ca) else if x.1 = 9 ∨ x.1 = 10 then decide (x.2 < g)
  else if x.1 = 16 then decide (x.2 < nf) else if x.1 = 17 ∨ x.1 = 18 then decide (x.2 ≤ 8) else true
/-- the first instruction that is wrong by itself -/
def ptI (rt : Int × Int → Bool) (n : Nat) : Nat → List (Int × Int) → Option (Int × Nat)
  | _, [] => none
  | i, x :: l => if rt x = false then some (72, i) else if juB x.1 = true ∧ (n : Int) ≤ x.2 then some (73, i) else ptI rt n (i + 1) l
/-- the first function that is wrong so -/
def ptF (g : Int) (nt nf : Nat) : Nat → List (Int × Int × Int × List (Int × Int)) → Option (Int × Nat × Nat)
  | _, [] => none
  | k, f :: l => if f.2.1 < f.1 ∨ f.2.2.2 = [] then some (71, k, 0) else
    match ptI (rtB g nt nf f.2.1 f.2.2.1) f.2.2.2.length 0 f.2.2.2 with
    | some (e, i) => some (e, k, i)
    | none => ptF g nt nf (k + 1) l

/-- a number among rising ones -/
def insF (j : Nat) : List Nat → List Nat
  | [] => [j]
  | a :: R => if a < j then a :: insF j R else j :: a :: R
/-- on to an instruction with a depth -/
def onF (s : List Int × List Nat) (j : Nat) (d : Int) : Option (List Int × List Nat) :=
  if s.1[j]? = some (-1) then some (s.1.set j d, insF j s.2) else if s.1[j]? = some d then some s else none
/-- on to the next one -/
def nxF (n i : Nat) (op : Int) (d : Int) (s : List Int × List Nat) : Sum Int (List Int × List Nat) :=
  if goB op = true then (if i + 1 < n then (match onF s (i + 1) d with | some s1 => .inr s1 | none => .inl 76) else .inl 77) else .inr s
/-- and on to the one at A -/
def juF (op a : Int) (d : Int) (s : List Int × List Nat) : Sum Int (List Int × List Nat) :=
  if juB op = true then (match onF s a.toNat d with | some s2 => .inr s2 | none => .inl 76) else .inr s
/-- through an instruction -/
def stF (t : Int) (n i : Nat) (x : Int × Int) (s : List Int × List Nat) : Sum Int (List Int × List Nat) :=
  if s.1.getD i 0 - t < 0 then .inl 74 else if 64 < s.1.getD i 0 - t + ptV x.1 then .inl 75 else
    match nxF n i x.1 (s.1.getD i 0 - t + ptV x.1) s with
    | .inl e => .inl e
    | .inr s1 => juF x.1 x.2 (s.1.getD i 0 - t + ptV x.1) s1
/-- the ways -/
def wyF (tk : Int × Int → Int) (C : List (Int × Int)) : Nat → List Int × List Nat → Sum (Int × Nat) (List Int)
  | 0, s => .inr s.1
  | k + 1, (D, []) => .inr D
  | k + 1, (D, i :: R) => match stF (tk (C.getD i (0, 0))) C.length i (C.getD i (0, 0)) (D, R) with
    | .inl e => .inl (e, i)
    | .inr s => wyF tk C k s
def wy0 (n : Nat) : List Int × List Nat := ((List.replicate n (-1)).set 0 0, [0])
def wyA (fs : List (Int × Int × Int × List (Int × Int))) (C : List (Int × Int)) : Sum (Int × Nat) (List Int) := wyF (tkV fs) C C.length (wy0 C.length)
/-- the greatest of some numbers -/
def mxL : List Int → Int
  | [] => 0
  | x :: l => max x (mxL l)
def gnF (fs : List (Int × Int × Int × List (Int × Int))) : Nat → List Int → List (List Int) → List (Int × Int × Int × List (Int × Int)) → Sum (Int × Nat × Nat) (List Int × List (List Int))
  | _, S, Ds, [] => .inr (S, Ds)
  | k, S, Ds, f :: l => match wyA fs f.2.2.2 with
    | .inl (e, i) => .inl (e, k, i)
    | .inr D => gnF fs (k + 1) (S ++ [f.2.1 + mxL D]) (Ds ++ [D]) l
/-- what Check tells of a program that can be written -/
def chF (x : Int) (nt : Nat) (fs : List (Int × Int × Int × List (Int × Int))) : Sum (Int × Nat × Nat) (List Int × List (List Int)) :=
  if (0 < (fs.map fun f => f.1).headD 0) ∨ 0 < (fs.map fun f => f.2.2.1).headD 0 then .inl (70, 0, 0) else
  match ptF x nt fs.length 0 fs with
  | some e => .inl e
  | none => gnF fs 0 [] [] fs

theorem ins_mem {j a : Nat} : ∀ {R : List Nat}, a ∈ insF j R ↔ a = j ∨ a ∈ R
  | [] => by simp [insF]
  | b :: R => by
    unfold insF
    split
    · rw [List.mem_cons, ins_mem (R := R), List.mem_cons]
      constructor
      · rintro (h | h | h)
        · exact .inr (.inl h)
        · exact .inl h
        · exact .inr (.inr h)
      · rintro (h | h | h)
        · exact .inr (.inl h)
        · exact .inl h
        · exact .inr (.inr h)
    · simp
theorem ins_len {j : Nat} : ∀ {R : List Nat}, (insF j R).length = R.length + 1
  | [] => rfl
  | b :: R => by
    unfold insF
    split
    · simp [ins_len (R := R)]
    · simp
theorem ins_sort {j : Nat} : ∀ {R : List Nat}, R.Pairwise (· < ·) → j ∉ R → (insF j R).Pairwise (· < ·)
  | [], _, _ => by simp [insF]
  | b :: R, h, hj => by
    rw [List.pairwise_cons] at h
    rw [List.mem_cons] at hj
    unfold insF
    split
    · rename_i hb
      rw [List.pairwise_cons]
      refine ⟨fun a ha => ?_, ins_sort h.2 (fun q => hj (.inr q))⟩
      rcases ins_mem.1 ha with rfl | ha
      · exact hb
      · exact h.1 a ha
    · rename_i hb
      have hbj : j < b := by
        have : j ≠ b := fun q => hj (.inl q)
        omega
      rw [List.pairwise_cons]
      refine ⟨fun a ha => ?_, List.pairwise_cons.2 h⟩
      rcases List.mem_cons.1 ha with rfl | ha
      · exact hbj
      · exact Nat.lt_trans hbj (h.1 a ha)
/-- how many are not known -/
def unk (D : List Int) : Nat := (D.filter fun d => d == -1).length
theorem unk_set : ∀ {D : List Int} {j : Nat} {d : Int}, D[j]? = some (-1) → 0 ≤ d → unk (D.set j d) + 1 = unk D
  | [], j, d, h, _ => by simp at h
  | x :: D, 0, d, h, hd => by
    have hx : x = -1 := by simpa using h
    subst hx
    have h1 : (d == -1) = false := by simp; omega
    simp [unk, h1]
  | x :: D, j + 1, d, h, hd => by
    have := unk_set (D := D) (j := j) (d := d) (by simpa using h) hd
    unfold unk at *
    rw [List.set_cons_succ, List.filter_cons, List.filter_cons]
    split
    · simp only [List.length_cons]; omega
    · exact this
/-- the walk's state is in order -/
def WO (n : Nat) (s : List Int × List Nat) : Prop := s.1.length = n ∧ (∀ (j : Nat) d, s.1[j]? = some d → -1 ≤ d ∧ d ≤ 64) ∧ s.2.Pairwise (· < ·) ∧ ∀ j ∈ s.2, ∃ d, s.1[j]? = some d ∧ 0 ≤ d
theorem WO.in {n : Nat} {s : List Int × List Nat} (h : WO n s) {j : Nat} (hj : j ∈ s.2) : j < n := by
  obtain ⟨d, h1, _⟩ := h.2.2.2 j hj
  rw [← h.1]
  exact (List.getElem?_eq_some_iff.1 h1).1
theorem WO.not {n : Nat} {s : List Int × List Nat} (h : WO n s) {j : Nat} (hj : s.1[j]? = some (-1)) : j ∉ s.2 := fun q => by
  obtain ⟨d, h1, h2⟩ := h.2.2.2 j q
  rw [hj] at h1
  have := Option.some.inj h1
  omega
/-- one step on -/
theorem on_ok {n j : Nat} {s s' : List Int × List Nat} {d : Int} (h : WO n s) (h0 : 0 ≤ d) (h1 : d ≤ 64) (e : onF s j d = some s') : WO n s' ∧ unk s'.1 + s'.2.length = unk s.1 + s.2.length ∧ s'.1[j]? = some d ∧
    (∀ (k : Nat) x, s.1[k]? = some x → x ≠ -1 → s'.1[k]? = some x) ∧ (∀ (k : Nat) x, s'.1[k]? = some x → x ≠ -1 → s.1[k]? = some x ∨ k = j) ∧ (∀ k ∈ s.2, k ∈ s'.2) ∧ ∀ k ∈ s'.2, k ∈ s.2 ∨ s.1[k]? = some (-1) := by
  unfold onF at e
  split at e
  · rename_i hj
    obtain rfl := Option.some.inj e
    have hlt : j < s.1.length := (List.getElem?_eq_some_iff.1 hj).1
    refine ⟨⟨by simpa using h.1, ?_, ins_sort h.2.2.1 (h.not hj), ?_⟩, ?_, by simp [hlt], ?_, ?_, fun k hk => ins_mem.2 (.inr hk), ?_⟩
    · intro k x hk
      by_cases q : j = k
      · subst q; simp [hlt] at hk; omega
      · rw [List.getElem?_set_ne q] at hk; exact h.2.1 k x hk
    · intro k hk
      by_cases q : j = k
      · subst q; exact ⟨d, by simp [hlt], h0⟩
      · rcases ins_mem.1 hk with rfl | hk
        · exact absurd rfl q
        · simp only []
          rw [List.getElem?_set_ne q]
          exact h.2.2.2 k hk
    · have := unk_set hj h0
      simp only [ins_len]
      omega
    · intro k x hk hx
      by_cases q : j = k
      · subst q; rw [hj] at hk; exact absurd (Option.some.inj hk).symm hx
      · rw [List.getElem?_set_ne q]; exact hk
    · intro k x hk hx
      by_cases q : j = k
      · exact .inr q.symm
      · rw [List.getElem?_set_ne q] at hk; exact .inl hk
    · intro k hk
      rcases ins_mem.1 hk with rfl | hk
      · exact .inr hj
      · exact .inl hk
  · split at e
    · rename_i hj
      obtain rfl := Option.some.inj e
      exact ⟨h, rfl, hj, fun _ _ q _ => q, fun _ _ q _ => .inl q, fun _ q => q, fun _ q => .inl q⟩
    · cases e
theorem WO.tail {n : Nat} {D : List Int} {i : Nat} {R : List Nat} (h : WO n (D, i :: R)) : WO n (D, R) := ⟨h.1, h.2.1, (List.pairwise_cons.1 h.2.2.1).2, fun j hj => h.2.2.2 j (List.mem_cons.2 (.inr hj))⟩
theorem wo_start {n : Nat} (hn : 0 < n) : WO n (wy0 n) ∧ unk (wy0 n).1 + (wy0 n).2.length = n := by
  obtain ⟨m, rfl⟩ : ∃ m, n = m + 1 := ⟨n - 1, by omega⟩
  refine ⟨⟨by simp [wy0], ?_, by simp [wy0], ?_⟩, ?_⟩
  · intro j d hj
    cases j with
    | zero => simp [wy0, List.replicate_succ] at hj; omega
    | succ k =>
      simp [wy0, List.replicate_succ, List.getElem?_replicate] at hj
      omega
  · intro j hj
    simp [wy0] at hj
    subst hj
    exact ⟨0, by simp [wy0, List.replicate_succ], by omega⟩
  · have : (List.replicate m (-1 : Int)).filter (fun d => d == -1) = List.replicate m (-1) := List.filter_eq_self.2 fun a ha => by rw [List.eq_of_mem_replicate ha]; rfl
    simp [wy0, unk, List.replicate_succ]
/-- what a function's instructions do to the depths, gone through -/
def Thr (tk : Int × Int → Int) (C : List (Int × Int)) (D : List Int) (i : Nat) : Prop := ∃ x d, C[i]? = some x ∧ D[i]? = some d ∧ 0 ≤ d - tk x ∧ d - tk x + ptV x.1 ≤ 64 ∧ (goB x.1 = true → i + 1 < C.length ∧ D[i + 1]? = some (d - tk x + ptV x.1)) ∧ (juB x.1 = true → D[x.2.toNat]? = some (d - tk x + ptV x.1))
theorem Thr.more {tk : Int × Int → Int} {C : List (Int × Int)} {D D' : List Int} {i : Nat} (h : Thr tk C D i) (hp : ∀ x, 0 ≤ ptV x) (hm : ∀ (k : Nat) x, D[k]? = some x → x ≠ -1 → D'[k]? = some x) (hi : D[i]? ≠ some (-1)) : Thr tk C D' i := by
  obtain ⟨x, d, h1, h2, h3, h4, h5, h6⟩ := h
  have := hp x.1
  exact ⟨x, d, h1, hm _ _ h2 (by rintro rfl; exact hi h2), h3, h4, fun q => ⟨(h5 q).1, hm _ _ (h5 q).2 (by omega)⟩, fun q => hm _ _ (h6 q) (by omega)⟩
theorem pt_nn (op : Int) : 0 ≤ ptV op := by unfold ptV; split; decide; split <;> decide
/-- what leads to an instruction -/
def Led (C : List (Int × Int)) (D : List Int) (j : Nat) : Prop := j = 0 ∨ ∃ i x d, C[i]? = some x ∧ D[i]? = some d ∧ 0 ≤ d ∧ ((goB x.1 = true ∧ i + 1 = j) ∨ (juB x.1 = true ∧ x.2.toNat = j))
def WG (tk : Int × Int → Int) (C : List (Int × Int)) (s : List Int × List Nat) : Prop := WO C.length s ∧ s.1[0]? = some 0 ∧ (∀ (i : Nat) d, s.1[i]? = some d → d ≠ -1 → i ∉ s.2 → Thr tk C s.1 i) ∧ ∀ (j : Nat) d, s.1[j]? = some d → d ≠ -1 → Led C s.1 j
theorem Led.more {C : List (Int × Int)} {D D' : List Int} {j : Nat} (h : Led C D j) (hm : ∀ (k : Nat) x, D[k]? = some x → x ≠ -1 → D'[k]? = some x) : Led C D' j := by
  rcases h with h | ⟨i, x, d, h1, h2, h3, h4⟩
  · exact .inl h
  · exact .inr ⟨i, x, d, h1, hm _ _ h2 (by omega), h3, h4⟩
theorem st_inv {t : Int} {n i : Nat} {x : Int × Int} {s s' : List Int × List Nat} (e : stF t n i x s = .inr s') : 0 ≤ s.1.getD i 0 - t ∧ s.1.getD i 0 - t + ptV x.1 ≤ 64 ∧ ∃ s1, nxF n i x.1 (s.1.getD i 0 - t + ptV x.1) s = .inr s1 ∧ juF x.1 x.2 (s.1.getD i 0 - t + ptV x.1) s1 = .inr s' := by
  unfold stF at e
  split at e
  · cases e
  split at e
  · cases e
  rename_i h1 h2
  split at e
  · cases e
  · rename_i s1 h3
    exact ⟨by omega, by omega, s1, h3, e⟩
theorem nx_inv {n i : Nat} {op d : Int} {s s1 : List Int × List Nat} (e : nxF n i op d s = .inr s1) : (goB op = true ∧ i + 1 < n ∧ onF s (i + 1) d = some s1) ∨ (goB op = false ∧ s1 = s) := by
  unfold nxF at e
  split at e
  · rename_i h
    split at e
    · rename_i h2
      split at e
      · rename_i s2 h3
        cases e
        exact .inl ⟨h, h2, h3⟩
      · cases e
    · cases e
  · rename_i h
    cases e
    exact .inr ⟨by simpa using h, rfl⟩
theorem ju_inv {op a d : Int} {s s1 : List Int × List Nat} (e : juF op a d s = .inr s1) : (juB op = true ∧ onF s a.toNat d = some s1) ∨ (juB op = false ∧ s1 = s) := by
  unfold juF at e
  split at e
  · rename_i h
    split at e
    · rename_i s2 h3
      cases e
      exact .inl ⟨h, h3⟩
    · cases e
  · rename_i h
    cases e
    exact .inr ⟨by simpa using h, rfl⟩
/-- a step keeps the state in order -/
theorem st_wo {t : Int} {n i : Nat} {x : Int × Int} {s s' : List Int × List Nat} (h : WO n s) (e : stF t n i x s = .inr s') : WO n s' ∧ unk s'.1 + s'.2.length = unk s.1 + s.2.length := by
  obtain ⟨h1, h2, s1, e1, e2⟩ := st_inv e
  have hp := pt_nn x.1
  have g1 : WO n s1 ∧ unk s1.1 + s1.2.length = unk s.1 + s.2.length := by
    rcases nx_inv e1 with ⟨_, _, q⟩ | ⟨_, rfl⟩
    · obtain ⟨a, b, _⟩ := on_ok h (by omega) h2 q; exact ⟨a, b⟩
    · exact ⟨h, rfl⟩
  rcases ju_inv e2 with ⟨_, q⟩ | ⟨_, rfl⟩
  · obtain ⟨a, b, _⟩ := on_ok g1.1 (by omega) h2 q; exact ⟨a, by omega⟩
  · exact g1
theorem st_wg {tk : Int × Int → Int} {C : List (Int × Int)} {D : List Int} {R : List Nat} {i : Nat} {x : Int × Int} {s' : List Int × List Nat} (h : WG tk C (D, i :: R)) (hx : C[i]? = some x) (e : stF (tk x) C.length i x (D, R) = .inr s') : WG tk C s' := by
  obtain ⟨hW, hz, hT, hL⟩ := h
  obtain ⟨h1, h2, s1, e1, e2⟩ := st_inv e
  have hp := pt_nn x.1
  obtain ⟨d, hd, hd0⟩ := hW.2.2.2 i (List.mem_cons.2 (.inl rfl))
  have hg : D.getD i 0 = d := by rw [List.getD_eq_getElem?_getD, hd]; rfl
  simp only [hg] at h1 h2 e1 e2
  have hni : i ∉ R := fun q => by have := (List.pairwise_cons.1 hW.2.2.1).1 i q; omega
  have hW' := hW.tail
  have g1 : WO C.length s1 ∧ (∀ (k : Nat) y, D[k]? = some y → y ≠ -1 → s1.1[k]? = some y) ∧ (∀ (k : Nat) y, s1.1[k]? = some y → y ≠ -1 → D[k]? = some y ∨ (goB x.1 = true ∧ k = i + 1)) ∧ (∀ k ∈ R, k ∈ s1.2) ∧ (∀ k ∈ s1.2, k ∈ R ∨ D[k]? = some (-1)) ∧ (∀ (k : Nat) y, s1.1[k]? = some y → y ≠ -1 → k ∉ s1.2 → D[k]? = some y) ∧ (goB x.1 = true → i + 1 < C.length ∧ s1.1[i + 1]? = some (d - tk x + ptV x.1)) := by
    rcases nx_inv e1 with ⟨q0, q1, q⟩ | ⟨q0, rfl⟩
    · obtain ⟨a, _, b, c, c2, c3, c4⟩ := on_ok hW' (by omega) h2 q
      refine ⟨a, c, fun k y u v => (c2 k y u v).imp_right fun z => ⟨q0, z⟩, c3, c4, ?_, fun _ => ⟨q1, b⟩⟩
      intro k y u v z
      rcases c2 k y u v with r | rfl
      · exact r
      · unfold onF at q
        split at q
        · obtain rfl := Option.some.inj q
          exact absurd (ins_mem.2 (.inl rfl)) z
        · split at q
          · obtain rfl := Option.some.inj q; exact u
          · cases q
    · exact ⟨hW', fun _ _ q _ => q, fun _ _ q _ => .inl q, fun _ q => q, fun _ q => .inl q, fun _ _ q _ _ => q, fun q => by rw [q0] at q; cases q⟩
  obtain ⟨a1, a2, a3, a4, a5, a6, a7⟩ := g1
  have g2 : WO C.length s' ∧ (∀ (k : Nat) y, s1.1[k]? = some y → y ≠ -1 → s'.1[k]? = some y) ∧ (∀ (k : Nat) y, s'.1[k]? = some y → y ≠ -1 → s1.1[k]? = some y ∨ (juB x.1 = true ∧ k = x.2.toNat)) ∧ (∀ k ∈ s1.2, k ∈ s'.2) ∧ (∀ (k : Nat) y, s'.1[k]? = some y → y ≠ -1 → k ∉ s'.2 → s1.1[k]? = some y) ∧ (juB x.1 = true → s'.1[x.2.toNat]? = some (d - tk x + ptV x.1)) := by
    rcases ju_inv e2 with ⟨q0, q⟩ | ⟨q0, rfl⟩
    · obtain ⟨a, _, b, c, c2, c3, c4⟩ := on_ok a1 (by omega) h2 q
      refine ⟨a, c, fun k y u v => (c2 k y u v).imp_right fun z => ⟨q0, z⟩, c3, ?_, fun _ => b⟩
      intro k y u v z
      rcases c2 k y u v with r | rfl
      · exact r
      · unfold onF at q
        split at q
        · obtain rfl := Option.some.inj q
          exact absurd (ins_mem.2 (.inl rfl)) z
        · split at q
          · obtain rfl := Option.some.inj q; exact u
          · cases q
    · exact ⟨a1, fun _ _ q _ => q, fun _ _ q _ => .inl q, fun _ q => q, fun _ _ q _ _ => q, fun q => by rw [q0] at q; cases q⟩
  obtain ⟨b1, b2, b3, b4, b5, b6⟩ := g2
  have hm : ∀ (k : Nat) y, D[k]? = some y → y ≠ -1 → s'.1[k]? = some y := fun k y u v => b2 k y (a2 k y u v) v
  refine ⟨b1, hm 0 0 hz (by decide), ?_, ?_⟩
  · intro k y u v z
    have hk1 := b5 k y u v z
    have hk : D[k]? = some y := a6 k y hk1 v (fun q => z (b4 k q))
    by_cases hki : k = i
    · subst hki
      exact ⟨x, d, hx, hm _ _ hd (by omega), h1, h2, fun q => ⟨(a7 q).1, b2 _ _ (a7 q).2 (by omega)⟩, b6⟩
    · refine (hT k y hk v (fun q => ?_)).more pt_nn hm (by rw [hk]; intro q; exact v (Option.some.inj q))
      rcases List.mem_cons.1 q with q | q
      · exact hki q
      · exact z (b4 k (a4 k q))
  · intro j y u v
    rcases b3 j y u v with r | ⟨r0, rfl⟩
    · rcases a3 j y r v with r | ⟨r0, rfl⟩
      · exact (hL j y r v).more hm
      · exact .inr ⟨i, x, d, hx, hm _ _ hd (by omega), hd0, .inl ⟨r0, rfl⟩⟩
    · exact .inr ⟨i, x, d, hx, hm _ _ hd (by omega), hd0, .inr ⟨r0, rfl⟩⟩
theorem at_getD {C : List (Int × Int)} {i : Nat} (h : i < C.length) : C[i]? = some (C.getD i (0, 0)) := by
  rw [List.getD_eq_getElem?_getD, List.getElem?_eq_getElem h]; rfl
/-- all that is known when the ways are gone -/
theorem wy_end {tk : Int × Int → Int} {C : List (Int × Int)} : ∀ {k : Nat} {s : List Int × List Nat} {D : List Int}, WG tk C s → unk s.1 + s.2.length ≤ k → wyF tk C k s = .inr D → WG tk C (D, [])
  | 0, (D0, R), D, h, hk, e => by
    have h1 : unk D0 + R.length = 0 := by simpa using hk
    obtain rfl : R = [] := List.eq_nil_of_length_eq_zero (by omega)
    simp only [wyF, Sum.inr.injEq] at e
    subst e
    exact h
  | k + 1, (D0, []), D, h, hk, e => by
    simp only [wyF, Sum.inr.injEq] at e
    subst e
    exact h
  | k + 1, (D0, i :: R), D, h, hk, e => by
    simp only [wyF] at e
    split at e
    · cases e
    · rename_i s' h2
      have hi := h.1.in (List.mem_cons.2 (.inl rfl))
      have := (st_wo h.1.tail h2).2
      simp only [List.length_cons] at this hk
      exact wy_end (st_wg h (at_getD hi) h2) (by omega) e
theorem wg_start {tk : Int × Int → Int} {C : List (Int × Int)} (h : C ≠ []) : WG tk C (wy0 C.length) := by
  have hn : 0 < C.length := List.length_pos_iff.2 h
  refine ⟨(wo_start hn).1, ?_, ?_, ?_⟩
  · obtain ⟨m, hm⟩ : ∃ m, C.length = m + 1 := ⟨C.length - 1, by omega⟩
    rw [hm]; simp [wy0, List.replicate_succ]
  · intro i d hi hd hn2
    exfalso
    cases i with
    | zero => simp [wy0] at hn2
    | succ k =>
      obtain ⟨m, hm⟩ : ∃ m, C.length = m + 1 := ⟨C.length - 1, by omega⟩
      rw [hm] at hi
      simp [wy0, List.replicate_succ, List.getElem?_replicate] at hi
      omega
  · intro i d hi hd
    cases i with
    | zero => exact .inl rfl
    | succ k =>
      exfalso
      obtain ⟨m, hm⟩ : ∃ m, C.length = m + 1 := ⟨C.length - 1, by omega⟩
      rw [hm] at hi
      simp [wy0, List.replicate_succ, List.getElem?_replicate] at hi
      omega
theorem wyA_end {fs : List (Int × Int × Int × List (Int × Int))} {C : List (Int × Int)} {D : List Int} (h : C ≠ []) (e : wyA fs C = .inr D) : WG (tkV fs) C (D, []) := by
  have hn : 0 < C.length := List.length_pos_iff.2 h
  exact wy_end (wg_start h) (Nat.le_of_eq (wo_start hn).2) e
end Go.Proofs.YtkghabmgofgclaaDoor
namespace Go.Proofs.YtkghabmgofgclaaDoor
set_option linter.unusedVariables false
set_option linter.unusedSimpArgs false

theorem ptI_ok {rt : Int × Int → Bool} {n : Nat} : ∀ {i : Nat} {l : List (Int × Int)}, ptI rt n i l = none → ∀ x ∈ l, rt x = true ∧ (juB x.1 = true → x.2 < (n : Int))
  | _, [], _, x, hx => by cases hx
  | i, y :: l, h, x, hx => by
    unfold ptI at h
    split at h
    · cases h
    split at h
    · cases h
    rename_i h1 h2
    rcases List.mem_cons.1 hx with rfl | hx
    · refine ⟨by simpa using h1, fun q => ?_⟩
      have : ¬ (n : Int) ≤ x.2 := fun z => h2 ⟨q, z⟩
      omega
    · exact ptI_ok h x hx
theorem ptF_ok {g : Int} {nt nf : Nat} : ∀ {k : Nat} {l : List (Int × Int × Int × List (Int × Int))}, ptF g nt nf k l = none → ∀ f ∈ l, f.1 ≤ f.2.1 ∧ f.2.2.2 ≠ [] ∧ ∀ x ∈ f.2.2.2, rtB g nt nf f.2.1 f.2.2.1 x = true ∧ (juB x.1 = true → x.2 < (f.2.2.2.length : Int))
  | _, [], _, f, hf => by cases hf
  | k, y :: l, h, f, hf => by
    unfold ptF at h
    split at h
    · cases h
    rename_i h1
    split at h
    · cases h
    rename_i h2
    rcases List.mem_cons.1 hf with rfl | hf
    · exact ⟨by omega, fun q => h1 (.inr q), ptI_ok h2⟩
    · exact ptF_ok h f hf
theorem gn_ok {fs : List (Int × Int × Int × List (Int × Int))} : ∀ {k : Nat} {S : List Int} {Ds : List (List Int)} {l : List (Int × Int × Int × List (Int × Int))} {S' : List Int} {Ds' : List (List Int)}, gnF fs k S Ds l = .inr (S', Ds') →
    ∃ T E, S' = S ++ T ∧ Ds' = Ds ++ E ∧ T.length = l.length ∧ E.length = l.length ∧ ∀ (j : Nat) f, l[j]? = some f → ∃ D, E[j]? = some D ∧ wyA fs f.2.2.2 = .inr D ∧ T[j]? = some (f.2.1 + mxL D)
  | k, S, Ds, [], S', Ds', h => by
    simp only [gnF, Sum.inr.injEq, Prod.mk.injEq] at h
    exact ⟨[], [], by rw [List.append_nil]; exact h.1.symm, by rw [List.append_nil]; exact h.2.symm, rfl, rfl, fun j f q => by simp at q⟩
  | k, S, Ds, f :: l, S', Ds', h => by
    unfold gnF at h
    split at h
    · cases h
    rename_i D hD
    obtain ⟨T, E, h1, h2, h3, h4, h5⟩ := gn_ok h
    refine ⟨(f.2.1 + mxL D) :: T, D :: E, by rw [h1]; simp, by rw [h2]; simp, by simp [h3], by simp [h4], fun j f' q => ?_⟩
    cases j with
    | zero =>
      simp only [List.getElem?_cons_zero, Option.some.injEq] at q
      subst q
      exact ⟨D, rfl, hD, rfl⟩
    | succ j => exact h5 j f' (by simpa using q)
theorem ch_ok {x : Int} {nt : Nat} {fs : List (Int × Int × Int × List (Int × Int))} {S : List Int} {Ds : List (List Int)} (h : chF x nt fs = .inr (S, Ds)) :
    (∀ f ∈ fs, f.1 ≤ f.2.1 ∧ f.2.2.2 ≠ [] ∧ ∀ y ∈ f.2.2.2, rtB x nt fs.length f.2.1 f.2.2.1 y = true ∧ (juB y.1 = true → y.2 < (f.2.2.2.length : Int))) ∧ S.length = fs.length ∧ Ds.length = fs.length ∧
    ∀ (j : Nat) f, fs[j]? = some f → ∃ D, Ds[j]? = some D ∧ wyA fs f.2.2.2 = .inr D ∧ S[j]? = some (f.2.1 + mxL D) := by
  unfold chF at h
  split at h
  · cases h
  split at h
  · cases h
  rename_i h1 h2
  obtain ⟨T, E, q1, q2, q3, q4, q5⟩ := gn_ok h
  simp only [List.nil_append] at q1 q2
  subst q1 q2
  exact ⟨ptF_ok h2, q3, q4, q5⟩
theorem mx_ge : ∀ {D : List Int} {j : Nat} {d : Int}, D[j]? = some d → d ≤ mxL D
  | [], j, d, h => by simp at h
  | x :: D, 0, d, h => by
    have : x = d := by simpa using h
    subst this
    unfold mxL
    omega
  | x :: D, j + 1, d, h => by
    have := mx_ge (D := D) (j := j) (d := d) (by simpa using h)
    unfold mxL
    omega
theorem mx_nn : ∀ (D : List Int), 0 ≤ mxL D
  | [] => by simp [mxL]
  | x :: D => by
    have := mx_nn D
    unfold mxL
    omega
theorem mx_le {n : Int} (hn : 0 ≤ n) : ∀ {D : List Int}, (∀ (j : Nat) d, D[j]? = some d → d ≤ n) → mxL D ≤ n
  | [], _ => by simpa [mxL] using hn
  | x :: D, h => by
    have h1 := h 0 x rfl
    have h2 := mx_le hn (D := D) fun j d q => h (j + 1) d (by simpa using q)
    unfold mxL
    omega
theorem mx_app (D : List Int) (x : Int) : mxL (D ++ [x]) = max (mxL D) x ∨ (x < 0 ∧ mxL (D ++ [x]) = mxL D) := by
  induction D with
  | nil => simp only [List.nil_append, mxL]; omega
  | cons y D ih =>
    simp only [List.cons_append, mxL]
    have := mx_nn D
    omega
theorem mx_take {D : List Int} {k : Nat} {x : Int} (h : D[k]? = some x) : mxL (D.take (k + 1)) = max (mxL (D.take k)) x := by
  rw [List.take_add_one, h]
  simp only [Option.toList]
  have := mx_nn (D.take k)
  rcases mx_app (D.take k) x with e | ⟨h1, e⟩
  · exact e
  · rw [e]; omega
/-- the depths of a function that is checked -/
def Dep (fs : List (Int × Int × Int × List (Int × Int))) (C : List (Int × Int)) (D : List Int) : Prop := D.length = C.length ∧ (∀ (j : Nat) d, D[j]? = some d → -1 ≤ d ∧ d ≤ 64) ∧ D[0]? = some 0 ∧ (∀ (i : Nat) d, D[i]? = some d → d ≠ -1 → Thr (tkV fs) C D i) ∧ ∀ (j : Nat) d, D[j]? = some d → d ≠ -1 → Led C D j
theorem dep_of {fs : List (Int × Int × Int × List (Int × Int))} {C : List (Int × Int)} {D : List Int} (h : C ≠ []) (e : wyA fs C = .inr D) : Dep fs C D := by
  obtain ⟨h1, h2, h3, h4⟩ := wyA_end h e
  exact ⟨h1.1, h1.2.1, h2, fun i d q r => h3 i d q r (by simp), h4⟩
end Go.Proofs.YtkghabmgofgclaaDoor
namespace Go.Proofs.YtkghabmgofgclaaDoor
open Go.RowKit
set_option linter.unusedVariables false
set_option linter.unusedSimpArgs false

/-- what a panic carries: an error and its place -/
def badP (e f i : Int) : PanicEntry := { v := .iface 125 (.agg #[.int .i64 e, .int .i64 f, .int .i64 i]), recovered := false }
theorem cwant_yes (e f i : Int) (w : World) : Calls Tryd.prog 54 #[.bool true, .int .i64 e, .int .i64 f, .int .i64 i] w fun x w' => x = .returned (.tuple #[]) ∧ w' = w := by
  go_enter Tryd.func54, Tryd.ntmps54
  go_wp2
  exact bodyPost_end (results_none Tryd.results54 _ _ _) rfl ⟨rfl, rfl⟩
theorem cwant_no (e f i : Int) (w : World) : Calls Tryd.prog 54 #[.bool false, .int .i64 e, .int .i64 f, .int .i64 i] w fun x w' => x = .panicked [badP e f i] ∧ w' = w := by
  go_enter Tryd.func54, Tryd.ntmps54
  go_wp2
  exact ⟨rfl, rfl, rfl⟩
theorem fwant_yes (P L C : Int) (ca : Option Addr) (n cc : Nat) (k g : Int) (ta : Option Addr) (nt tc : Nat) (fa : Option Addr) (nf fc : Nat) (e i : Int) (w : World) : Calls Tryd.prog 68 #[.agg #[.int .i64 P, .int .i64 L, .int .i64 C, .slice ca n cc, .int .i64 k, .int .i64 g, .slice ta nt tc, .slice fa nf fc], .bool true, .int .i64 e, .int .i64 i] w fun x w' => x = .returned (.tuple #[]) ∧ Out 0 0 w w' := by
  have HO := hid_mk ((Out.refl 0 0 w).alloc (.cells #[.int .i64 P, .int .i64 L, .int .i64 C, .slice ca n cc, .int .i64 k, .int .i64 g, .slice ta nt tc, .slice fa nf fc] 104))
  go_enter Tryd.func68, Tryd.ntmps68
  go_wp2_with (go_at_call 54; refine calls_same (cwant_yes _ _ _ _) ?_)
  exact bodyPost_end (results_none Tryd.results68 _ _ _) rfl ⟨rfl, HO.out⟩
theorem fwant_no (P L C : Int) (ca : Option Addr) (n cc : Nat) (k g : Int) (ta : Option Addr) (nt tc : Nat) (fa : Option Addr) (nf fc : Nat) (e i : Int) (w : World) : Calls Tryd.prog 68 #[.agg #[.int .i64 P, .int .i64 L, .int .i64 C, .slice ca n cc, .int .i64 k, .int .i64 g, .slice ta nt tc, .slice fa nf fc], .bool false, .int .i64 e, .int .i64 i] w fun x w' => x = .panicked [badP e k i] ∧ Out 0 0 w w' := by
  have HO := hid_mk ((Out.refl 0 0 w).alloc (.cells #[.int .i64 P, .int .i64 L, .int .i64 C, .slice ca n cc, .int .i64 k, .int .i64 g, .slice ta nt tc, .slice fa nf fc] 104))
  go_enter Tryd.func68, Tryd.ntmps68
  go_wp2_with (go_at_call 54; refine calls_stop (cwant_no _ _ _ _) ?_)
  exact ⟨rfl, rfl, HO.out⟩
theorem fwant_any (P L C : Int) (ca : Option Addr) (n cc : Nat) (k g : Int) (ta : Option Addr) (nt tc : Nat) (fa : Option Addr) (nf fc : Nat) (b : Bool) (e i : Int) {w : World} {Q : Ending → World → Prop} (hy : ∀ w', b = true → Out 0 0 w w' → Q (.returned (.tuple #[])) w') (hn : ∀ w', b = false → Out 0 0 w w' → Q (.panicked [badP e k i]) w') : Calls Tryd.prog 68 #[.agg #[.int .i64 P, .int .i64 L, .int .i64 C, .slice ca n cc, .int .i64 k, .int .i64 g, .slice ta nt tc, .slice fa nf fc], .bool b, .int .i64 e, .int .i64 i] w Q := by
  cases b
  · exact (fwant_no P L C ca n cc k g ta nt tc fa nf fc e i w).mono fun x w' ⟨h1, h2⟩ => by rw [h1]; exact hn w' rfl h2
  · exact (fwant_yes P L C ca n cc k g ta nt tc fa nf fc e i w).mono fun x w' ⟨h1, h2⟩ => by rw [h1]; exact hy w' rfl h2
theorem jumps_any (op : Int) (w : World) : Calls Tryd.prog 70 #[.int .i64 op] w fun x w' => x = .returned (.bool (juB op)) ∧ w' = w := by
  unfold juB
  generalize h1 : (op == 14) = b1
  generalize h2 : (op == 15) = b2
  cases b1 <;> cases b2
  all_goals
    go_enter Tryd.func70, Tryd.ntmps70
    go_wp2
    go_ret
    exact ⟨rfl, rfl⟩
theorem goesOn_any (op : Int) (w : World) : Calls Tryd.prog 104 #[.int .i64 op] w fun x w' => x = .returned (.bool (goB op)) ∧ w' = w := by
  by_cases h : op = 14 ∨ op = 18 ∨ op = 19 ∨ op = 21 ∨ op = 22
  · rcases h with rfl | rfl | rfl | rfl | rfl
    all_goals
      go_enter Tryd.func104, Tryd.ntmps104
      go_wp2
      go_ret
      exact ⟨rfl, rfl⟩
  · have e1 : (op == 14) = false := by simp; omega
    have e2 : (op == 18) = false := by simp; omega
    have e3 : (op == 19) = false := by simp; omega
    have e4 : (op == 21) = false := by simp; omega
    have e5 : (op == 22) = false := by simp; omega
    have e : goB op = true := by unfold goB; rw [e1, e2, e3, e4, e5]; rfl
    rw [e]
    clear h e
    go_enter Tryd.func104, Tryd.ntmps104
    go_wp2
    go_ret
    exact ⟨rfl, rfl⟩
theorem puts_any (op : Int) (w : World) : Calls Tryd.prog 103 #[.int .i64 op] w fun x w' => x = .returned (.int .i64 (ptV op)) ∧ w' = w := by
  by_cases h : op = 7 ∨ op = 10 ∨ op = 11 ∨ op = 14 ∨ op = 15 ∨ op = 18 ∨ op = 19 ∨ op = 21 ∨ op = 22 ∨ op = 12 ∨ op = 13
  · rcases h with rfl | rfl | rfl | rfl | rfl | rfl | rfl | rfl | rfl | rfl | rfl
    all_goals
      go_enter Tryd.func103, Tryd.ntmps103
      go_wp2
      go_ret
      exact ⟨rfl, rfl⟩
  · have e1 : (op == 7) = false := by simp; omega
    have e2 : (op == 10) = false := by simp; omega
    have e3 : (op == 11) = false := by simp; omega
    have e4 : (op == 14) = false := by simp; omega
    have e5 : (op == 15) = false := by simp; omega
    have e6 : (op == 18) = false := by simp; omega
    have e7 : (op == 19) = false := by simp; omega
    have e8 : (op == 21) = false := by simp; omega
    have e9 : (op == 22) = false := by simp; omega
    have e10 : (op == 12) = false := by simp; omega
    have e11 : (op == 13) = false := by simp; omega
    have e : ptV op = 1 := by
      unfold ptV
      rw [if_neg (by simp; omega), if_neg (by simp; omega)]
    rw [e]
    clear h e
    go_enter Tryd.func103, Tryd.ntmps103
    go_wp2
    go_ret
    exact ⟨rfl, rfl⟩
end Go.Proofs.YtkghabmgofgclaaDoor
namespace Go.Proofs.YtkghabmgofgclaaDoor
open Go.RowKit
set_option linter.unusedVariables false
set_option linter.unusedSimpArgs false

def rnI : Go.Shelf.Ren := ⟨fun | 21 => 113 | 27 => 115 | 28 => 116 | 35 => 117 | 39 => 118 | n => n, fun | 0 => 0 | 3 => 3 | 4 => 4 | 22 => 68 | n => n, fun n => n⟩
set_option maxRecDepth 100000 in
theorem ins_lays : Go.Proofs.Lays2.n21 Tryd.prog rnI := {
  mixed := by kernel_rfl
  f21 := Tryd.func113.trans (congrArg some (by kernel_rfl))
  f27 := Tryd.func115.trans (congrArg some (by kernel_rfl))
  f28 := Tryd.func116.trans (congrArg some (by kernel_rfl))
  f35 := Tryd.func117.trans (congrArg some (by kernel_rfl))
  f39 := Tryd.func118.trans (congrArg some (by kernel_rfl))
  t0 := Tryd.underlying0
  a0 := Tryd.isAgg0
  z0 := Tryd.sizeOf0
  v0 := Tryd.zeroValue0
  t3 := Tryd.underlying3
  a3 := Tryd.isAgg3
  z3 := Tryd.sizeOf3
  v3 := Tryd.zeroValue3
  t4 := Tryd.underlying4
  a4 := Tryd.isAgg4
  z4 := Tryd.sizeOf4
  v4 := Tryd.zeroValue4
  t22 := Tryd.underlying68
  a22 := Tryd.isAgg68
  z22 := Tryd.sizeOf68
  v22 := Tryd.zeroValue68
  i3 := by kernel_rfl }

/-- numbers as cells -/
def ivs (l : List Int) : List Value := l.map fun x => .int .i64 x
theorem ivs_len (l : List Int) : (ivs l).length = l.length := by unfold ivs; simp
theorem ivs_at {l : List Int} {j : Nat} {v : Value} (h : (ivs l)[j]? = some v) : ∃ x, l[j]? = some x ∧ v = .int .i64 x := by
  unfold ivs at h
  rw [List.getElem?_map] at h
  obtain ⟨y, h1, h2⟩ := Option.map_eq_some_iff.1 h
  exact ⟨y, h1, h2.symm⟩
theorem ivs_is {l : List Int} {j : Nat} {x : Int} (h : l[j]? = some x) : (ivs l)[j]? = some (.int .i64 x) := by
  unfold ivs; rw [List.getElem?_map, h]; rfl
theorem ivs_one {l : List Int} : ∀ v ∈ ivs l, v.oneCell' = true := by
  intro v hv
  unfold ivs at hv
  obtain ⟨y, _, rfl⟩ := List.mem_map.1 hv
  rfl
/-- cells written one behind the other -/
theorem Bl.sets {T : TypeId} {b : Nat} : ∀ (vs : List Value) (o : Nat) (w : World) (cur : Array Value), Bl w b cur T → o + vs.length ≤ cur.size → ∃ cur', Bl (w.setCells b o vs) b cur' T ∧ cur'.toList = cur.toList.take o ++ vs ++ cur.toList.drop (o + vs.length)
  | [], o, w, cur, h, hl => ⟨cur, h, by simp⟩
  | v :: vs, o, w, cur, h, hl => by
    simp only [List.length_cons] at hl
    obtain ⟨cur', h1, h2⟩ := Bl.sets vs (o + 1) (w.setCell ⟨b, o, none⟩ v) (cur.setIfInBounds o v) (h.set o v) (by simp; omega)
    refine ⟨cur', h1, ?_⟩
    rw [h2, Array.toList_setIfInBounds, List.take_set, List.drop_set]
    simp only [List.length_cons]
    rw [if_pos (by omega), show o + (vs.length + 1) = o + 1 + vs.length by omega]
    have : (cur.toList.take (o + 1)).set o v = cur.toList.take o ++ [v] := by
      have hlt : o < cur.toList.length := by simpa using (by omega : o < cur.size)
      rw [List.take_add_one, List.getElem?_eq_getElem hlt]
      simp only [Option.toList]
      rw [List.set_append_right _ _ (by simp; omega)]
      have : o - (cur.toList.take o).length = 0 := by rw [List.length_take]; omega
      rw [this]
      rfl
    rw [this]
    simp
theorem sets_size (b : Nat) : ∀ (vs : List Value) (o : Nat) (w : World), (w.setCells b o vs).heap.size = w.heap.size
  | [], _, _ => rfl
  | v :: vs, o, w => by
    show ((w.setCell ⟨b, o, none⟩ v).setCells b (o + 1) vs).heap.size = _
    rw [sets_size b vs, size_set]
theorem Fx.sets {S : Nat → Prop} {a : World} {b : Nat} (hb : S b ∨ a.heap.size ≤ b) : ∀ (vs : List Value) (o : Nat) (w : World), Fx S a w → Fx S a (w.setCells b o vs)
  | [], _, _, h => h
  | v :: vs, o, w, h => Fx.sets hb vs (o + 1) _ (h.set (p := ⟨b, o, none⟩) hb v)
theorem ins_list {α : Type} {l : List α} {i : Nat} {x : α} (h : i ≤ l.length) : (l.take i ++ x :: l.drop i).length = l.length + 1 := by
  simp only [List.length_append, List.length_cons, List.length_take, List.length_drop]; omega
theorem ivs_ins (xs : List Int) (i : Nat) (v : Int) : ivs (xs.take i ++ v :: xs.drop i) = (ivs xs).take i ++ .int .i64 v :: (ivs xs).drop i := by
  unfold ivs; simp [List.map_take, List.map_drop]
theorem zc_len (n : Nat) : (Builtin.zeroCells (Value.int .i64 0).cells n).toList.length = n := by
  have := size_zeroCells (Value.int .i64 0).cells n
  simpa [Value.cells] using this
/-- the parts of a row behind two writes -/
theorem two_a {α : Type} {C0 A B C1 C2 : List α} {v : α} {i : Nat} (hA : C0.take i = A) (hi : i + 1 + B.length ≤ C0.length) (h1 : C1 = C0.take i ++ [v] ++ C0.drop (i + 1)) (h2 : C2 = C1.take (i + 1) ++ B ++ C1.drop (i + 1 + B.length)) : C2.length = C0.length ∧ C2.take (i + 1 + B.length) = A ++ v :: B := by
  have l1 : (C0.take i).length = i := by rw [List.length_take]; omega
  have t1 : C1.take (i + 1) = C0.take i ++ [v] := by
    rw [h1, List.take_append_of_le_length (by simp; omega), List.take_of_length_le (by simp; omega)]
  have lc : C1.length = C0.length := by rw [h1]; simp; omega
  constructor
  · rw [h2]; simp; omega
  · rw [h2, t1, List.take_append_of_le_length (by simp; omega), List.take_of_length_le (by simp; omega), hA]; simp
theorem two_b {α : Type} {C0 A B C1 C2 : List α} {v : α} {i : Nat} (hA : C0.take i = A) (hi : i + 1 + B.length ≤ C0.length) (h1 : C1 = C0.take (i + 1) ++ B ++ C0.drop (i + 1 + B.length)) (h2 : C2 = C1.take i ++ [v] ++ C1.drop (i + 1)) : C2.length = C0.length ∧ C2.take (i + 1 + B.length) = A ++ v :: B := by
  have l1 : (C0.take (i + 1)).length = i + 1 := by rw [List.length_take]; omega
  have lc : C1.length = C0.length := by rw [h1]; simp; omega
  have t1 : C1.take i = C0.take i := by
    rw [h1, List.append_assoc, List.take_append_of_le_length (by omega), List.take_take, Nat.min_eq_left (by omega)]
  have d1 : C1.drop (i + 1) = B ++ C0.drop (i + 1 + B.length) := by
    rw [h1, List.append_assoc, List.drop_append_of_le_length (by omega), List.drop_of_length_le (by omega)]; rfl
  constructor
  · rw [h2]; simp; omega
  · have la : A.length = i := by rw [← hA, List.length_take]; omega
    rw [h2, t1, d1, hA, ← List.append_assoc, List.take_append_of_le_length (by simp; omega), List.take_of_length_le (by simp; omega)]; simp
set_option maxHeartbeats 1000000 in
/-- one number put into the row at i -/
theorem insert_any {w : World} {base K cap i vb : Nat} {ta : Option Addr} {xs : List Int} {v : Int} (hown : w.ownsRow base 3 1 (.slice ta K cap) K (ivs xs)) (hbase : base ≤ w.heap.size) (hi : i ≤ K) (hK : K ≤ 1000000) (hv : Bl w vb #[.int .i64 v] 3) (hne : ∀ q, (Value.slice ta K cap).ownBlock = some q → vb ≠ q) :
    Calls Tryd.prog 113 #[.slice ta K cap, .int .i64 i, .slice (some ⟨vb, 0, none⟩) 1 1] w fun e w' => ∃ a' cap', e = .returned (.slice a' (K + 1) cap') ∧ w'.ownsRow base 3 1 (.slice a' (K + 1) cap') (K + 1) (ivs (xs.take i ++ v :: xs.drop i)) ∧ Fx (fun k => (Value.slice ta K cap).ownBlock = some k) w w' ∧
      ((Value.slice a' (K + 1) cap').ownBlock = (Value.slice ta K cap).ownBlock ∨ ∃ q, (Value.slice a' (K + 1) cap').ownBlock = some q ∧ w.heap.size ≤ q) := by
  have hxl : xs.length = K := by have := hown.1; rw [ivs_len, Nat.mul_one] at this; exact this
  have hil : (ivs xs).length = K := by rw [ivs_len]; exact hxl
  have hvs : ∀ (j : Nat) u, [Value.int .i64 v][j]? = some u → w.cell? ⟨vb, 0 + j, none⟩ = some u := by
    intro j u hj
    cases j with
    | zero => simp at hj; subst hj; exact hv.cell rfl
    | succ j => simp at hj
  have h1v : ∀ u ∈ [Value.int .i64 v], u.oneCell' = true := by intro u hu; simp at hu; subst hu; rfl
  have hmx : K + 1 ≤ maxLen := by unfold maxLen; omega
  rcases hown.2 with ⟨he, h0⟩ | ⟨q, cap2, cur, he, hq1, hq2, hq3, hq4, hq5, hq6⟩
  · cases he
    obtain rfl : i = 0 := by omega
    obtain rfl : xs = [] := List.eq_nil_of_length_eq_zero hxl
    refine (Any2.slices_Insert_int_end_grow ins_lays none 0 0 vb 0 1 1 [] [.int .i64 v] w (by omega) (by omega) (by omega) (by omega) rfl rfl (fun _ => rfl) (fun a h => by cases h) hvs h1v).mono ?_
    rintro e w' ⟨rfl, rfl⟩
    have hg1 := grownCap_ge w (0 + 1) 0 (rnI.t 3)
    have hg2 := grownCap_le_maxLen w (0 + 1) 0 (rnI.t 3) hmx
    generalize grownCap w (0 + 1) 0 (rnI.t 3) = G at *
    refine ⟨_, _, rfl, ⟨by simp [ivs_len], .inr ⟨w.heap.size, G, _, rfl, hbase, heap_alloc_new w.drew _, hg1, hg2, ?_, ?_⟩⟩, ((Fx.refl _ w).drew.alloc _), .inr ⟨w.heap.size, rfl, Nat.le_refl _⟩⟩
    · have := zc_len (G - (0 + 1)); simp at this; simp [this]; omega
    · simp [ivs]
  · cases he
    rw [Nat.mul_one] at hq5 hq6
    have hB : Bl w q cur 3 := hq2
    have hcs : ∀ (j : Nat) u, (ivs xs)[j]? = some u → cur[j]? = some u := by
      intro j u hj
      have hj' : j < K := by have := (List.getElem?_eq_some_iff.1 hj).1; omega
      rw [← hq6, List.getElem?_take_of_lt hj'] at hj
      simpa using hj
    have hcell : ∀ (j : Nat) u, (ivs xs)[j]? = some u → w.cell? ⟨q, 0 + j, none⟩ = some u := fun j u hj => by rw [Nat.zero_add]; exact hB.cell (hcs j u hj)
    have hsome : ∀ j, j < cap → (w.cell? ⟨q, 0 + j, none⟩).isSome = true := fun j hj => by
      rw [Nat.zero_add, hB.cell (i := j) (Array.getElem?_eq_getElem (by omega))]; rfl
    by_cases hroom : K + 1 ≤ cap
    · by_cases hin : i < K
      · refine (Any2.slices_Insert_int_shift ins_lays q 0 K cap i vb 0 1 1 (ivs xs) [.int .i64 v] w hin (by omega) hroom (by unfold maxLen at hq4; omega) (hne q rfl) hil rfl hcell (fun j hj => hsome j (by omega)) (fun j _ => hB.frozen _) hvs ivs_one h1v 3 3 1 cap (by unfold Bl at hv; simp [World.shape?, hv]) (by unfold Bl at hB; simp [World.shape?, hB, hq5]) (by omega) (hv.frozen _) (hv.frozen _)).mono ?_
        rintro e w' ⟨rfl, rfl⟩
        have hB' : Bl w.drew q cur 3 := hB
        obtain ⟨c1, b1, e1⟩ := Bl.sets ((ivs xs).drop i) (0 + (i + 1)) w.drew cur hB' (by rw [List.length_drop, hil]; omega)
        have s1 : c1.size = cur.size := by
          have := congrArg List.length e1
          simp at this
          rw [ivs_len, hxl] at this
          omega
        obtain ⟨c2, b2, e2⟩ := Bl.sets [.int .i64 v] (0 + i) _ c1 b1 (by simp; omega)
        obtain ⟨t1, t2⟩ := two_b (C0 := cur.toList) (A := (ivs xs).take i) (B := (ivs xs).drop i) (v := .int .i64 v) (i := i) (by rw [← hq6, List.take_take, Nat.min_eq_left (by omega)]) (by rw [List.length_drop, hil, Array.length_toList]; omega) (by simpa [Nat.zero_add, Nat.add_assoc] using e1) (by simpa using e2)
        refine ⟨_, _, rfl, ⟨by rw [ivs_len, ins_list (by omega), hxl]; omega, .inr ⟨q, cap, c2, rfl, hq1, b2, hroom, hq4, ?_, ?_⟩⟩, ?_, .inl rfl⟩
        · have : c2.size = cur.size := by simpa using t1
          omega
        · rw [ivs_ins, Nat.mul_one, ← t2, List.length_drop, hil]
          congr 1; omega
        · exact Fx.sets (S := fun k => (Value.slice (some ⟨q, 0, none⟩) K cap).ownBlock = some k) (.inl rfl) _ _ _ (Fx.sets (S := fun k => (Value.slice (some ⟨q, 0, none⟩) K cap).ownBlock = some k) (.inl rfl) _ _ _ (Fx.refl _ w).drew)
      · obtain rfl : i = K := by omega
        refine (Any2.slices_Insert_int_end_room ins_lays q 0 i cap vb 0 1 1 [.int .i64 v] w (by omega) hroom (by unfold maxLen at hq4; omega) rfl (fun j hj => by have := hsome (i + j) (by omega); rwa [← Nat.add_assoc] at this) (fun j _ => hB.frozen _) hvs h1v).mono ?_
        rintro e w' ⟨rfl, rfl⟩
        obtain ⟨c1, b1, e1⟩ := Bl.sets [.int .i64 v] (0 + i) w cur hB (by simp; omega)
        rw [Nat.zero_add] at e1
        have l1 : (cur.toList.take i).length = i := by rw [List.length_take, Array.length_toList]; omega
        refine ⟨_, _, rfl, ⟨by rw [ivs_len, ins_list (by omega), hxl]; omega, .inr ⟨q, cap, c1, rfl, hq1, b1, hroom, hq4, ?_, ?_⟩⟩, Fx.sets (S := fun k => (Value.slice (some ⟨q, 0, none⟩) i cap).ownBlock = some k) (.inl rfl) _ _ _ (Fx.refl _ w), .inl rfl⟩
        · have := congrArg List.length e1
          simp at this
          omega
        · rw [ivs_ins, Nat.mul_one, e1, hq6, List.take_append_of_le_length (by simp; omega), List.take_of_length_le (by simp; omega), List.take_of_length_le (l := ivs xs) (by omega), List.drop_of_length_le (l := ivs xs) (by omega)]
    · by_cases hin : i < K
      · refine (Any2.slices_Insert_int_grow ins_lays q 0 K cap i vb 0 1 1 (ivs xs) [.int .i64 v] w hin (by omega) hq3 (by omega) (by omega) hil rfl hcell hvs ivs_one h1v).mono ?_
        rintro e w' ⟨rfl, rfl⟩
        have hg1 := grownCap_ge w (K + 1) cap (rnI.t 3)
        have hg2 := grownCap_le_maxLen w (K + 1) cap (rnI.t 3) hmx
        generalize grownCap w (K + 1) cap (rnI.t 3) = G at *
        obtain ⟨c0, hc0⟩ : ∃ c0, ((ivs xs).take i).toArray ++ Builtin.zeroCells (Value.int .i64 0).cells (K + 1 - i) ++ Builtin.zeroCells (Value.int .i64 0).cells (G - (K + 1)) = c0 := ⟨_, rfl⟩
        rw [hc0]
        have hl0 : c0.toList.length = G := by
          rw [← hc0]
          simp only [Array.toList_append, List.length_append, zc_len, List.length_take, hil]
          omega
        have ht0 : c0.toList.take i = (ivs xs).take i := by
          rw [← hc0]
          simp only [Array.toList_append]
          rw [List.append_assoc, List.take_append_of_le_length (by rw [List.length_take, hil]; omega), List.take_of_length_le (by rw [List.length_take]; omega)]
        have hB0 : Bl ((w.alloc (.cells c0 (rnI.t 3))).drew) w.heap.size c0 3 := Bl.new w c0 3
        obtain ⟨c1, b1, e1⟩ := Bl.sets [.int .i64 v] i _ c0 hB0 (by simp at hl0 ⊢; omega)
        have s1 : c1.size = c0.size := by
          have := congrArg List.length e1
          simp at this hl0
          omega
        have hB1 : Bl (((w.alloc (.cells c0 (rnI.t 3))).drew.setCells w.heap.size i [.int .i64 v]).drew) w.heap.size c1 3 := b1
        obtain ⟨c2, b2, e2⟩ := Bl.sets ((ivs xs).drop i) (i + 1) _ c1 hB1 (by rw [List.length_drop, hil]; simp at hl0; omega)
        obtain ⟨t1, t2⟩ := two_a (C0 := c0.toList) (A := (ivs xs).take i) (B := (ivs xs).drop i) (v := .int .i64 v) (i := i) ht0 (by rw [List.length_drop, hil, hl0]; omega) (by simpa using e1) (by simpa using e2)
        refine ⟨_, _, rfl, ⟨by rw [ivs_len, ins_list (by omega), hxl]; omega, .inr ⟨w.heap.size, G, c2, rfl, hbase, b2, hg1, hg2, ?_, ?_⟩⟩, ?_, .inr ⟨w.heap.size, rfl, Nat.le_refl _⟩⟩
        · have : c2.size = c0.size := by simpa using t1
          simp at hl0
          omega
        · rw [ivs_ins, Nat.mul_one, ← t2, List.length_drop, hil]
          congr 1; omega
        · exact Fx.sets (.inr (Nat.le_refl _)) _ _ _ ((Fx.sets (.inr (Nat.le_refl _)) _ _ _ ((Fx.refl _ w).alloc _).drew).drew)
      · obtain rfl : i = K := by omega
        refine (Any2.slices_Insert_int_end_grow ins_lays (some ⟨q, 0, none⟩) i cap vb 0 1 1 (ivs xs) [.int .i64 v] w (by omega) hq3 (by omega) (by omega) hil rfl (fun h => by cases h) (fun a ha j u hj => by cases ha; rw [Addr.add_lit]; exact hcell j u hj) hvs h1v).mono ?_
        rintro e w' ⟨rfl, rfl⟩
        have hg1 := grownCap_ge w (i + 1) cap (rnI.t 3)
        have hg2 := grownCap_le_maxLen w (i + 1) cap (rnI.t 3) hmx
        generalize grownCap w (i + 1) cap (rnI.t 3) = G at *
        refine ⟨_, _, rfl, ⟨by rw [ivs_len, ins_list (by omega), hxl]; omega, .inr ⟨w.heap.size, G, _, rfl, hbase, heap_alloc_new w.drew _, hg1, hg2, ?_, ?_⟩⟩, ((Fx.refl _ w).drew.alloc _), .inr ⟨w.heap.size, rfl, Nat.le_refl _⟩⟩
        · have := zc_len (G - (i + 1))
          simp only [Array.size_append, List.size_toArray, List.length_append, hil, List.length_singleton]
          rw [← Array.length_toList (xs := Builtin.zeroCells _ _), this]
          omega
        · rw [ivs_ins, Nat.mul_one, Array.toList_append, List.take_append_of_le_length (by simp [hil]), List.take_of_length_le (by simp [hil]), List.take_of_length_le (l := ivs xs) (by omega), List.drop_of_length_le (l := ivs xs) (by omega)]
end Go.Proofs.YtkghabmgofgclaaDoor
namespace Go.Proofs.YtkghabmgofgclaaDoor
open Go.RowKit
set_option linter.unusedVariables false
set_option linter.unusedSimpArgs false

theorem nan_any (x : Int) (w : World) : Calls Tryd.prog 114 #[.int .i64 x] w fun e w' => e = .returned (.bool false) ∧ w' = w := by
  have h : (x != x) = false := by simp
  go_enter Tryd.func114, Tryd.ntmps114
  go_wp2
  go_ret
  exact ⟨rfl, rfl⟩
def cmV (x y : Int) : Int := if x < y then -1 else if y < x then 1 else 0
theorem cmp_any (x y : Int) (w : World) : Calls Tryd.prog 112 #[.int .i64 x, .int .i64 y] w fun e w' => e = .returned (.int .i64 (cmV x y)) ∧ w' = w := by
  by_cases h : x < y
  · have hd : decide (x < y) = true := by simpa using h
    rw [show cmV x y = -1 from if_pos h]
    clear h
    go_enter Tryd.func112, Tryd.ntmps112
    go_wp2_with (go_at_call 114; refine calls_same (nan_any _ _) ?_)
    go_ret
    exact ⟨rfl, rfl⟩
  · have hd : decide (x < y) = false := by simpa using h
    by_cases h2 : y < x
    · have hd2 : decide (y < x) = true := by simpa using h2
      rw [show cmV x y = 1 by unfold cmV; rw [if_neg h, if_pos h2]]
      clear h h2
      go_enter Tryd.func112, Tryd.ntmps112
      go_wp2_with (go_at_call 114; refine calls_same (nan_any _ _) ?_)
      go_ret
      exact ⟨rfl, rfl⟩
    · have hd2 : decide (y < x) = false := by simpa using h2
      rw [show cmV x y = 0 by unfold cmV; rw [if_neg h, if_neg h2]]
      clear h h2
      go_enter Tryd.func112, Tryd.ntmps112
      go_wp2_with (go_at_call 114; refine calls_same (nan_any _ _) ?_)
      go_ret
      exact ⟨rfl, rfl⟩
theorem fall_any (y x : Int) (w : World) : Calls Tryd.prog 111 #[.int .i64 y, .int .i64 x] w fun e w' => e = .returned (.int .i64 (cmV x y)) ∧ w' = w := by
  go_enter Tryd.func111, Tryd.ntmps111
  go_wp2_with (go_at_call 112; refine calls_same (cmp_any _ _ _) ?_)
  go_ret
  exact ⟨rfl, rfl⟩
theorem cm_neg {x y : Int} (h : x < y) : decide (cmV x y < 0) = true := by unfold cmV; rw [if_pos h]; rfl
theorem cm_pos {x y : Int} (h : y < x) : decide (cmV x y < 0) = false ∧ (cmV x y == 0) = false := by unfold cmV; rw [if_neg (by omega), if_pos h]; exact ⟨rfl, rfl⟩
/-- the middle of two places -/
theorem mid_any {i j : Nat} (hi : i < j) (hj : j ≤ 1000000) : wrap64 (IntKind.u64.wrap (wrap64 ((i : Int) + (j : Int))) / 2) = (((i + j) / 2 : Nat) : Int) := by
  have h0 : wrap64 ((i : Int) + (j : Int)) = (i : Int) + j := by unfold wrap64; omega
  rw [h0]
  have : IntKind.u64.wrap ((i : Int) + (j : Int)) = (i : Int) + j := by simp [IntKind.wrap, IntKind.signed, IntKind.bits]; omega
  rw [this]
  unfold wrap64
  omega
theorem up_w {h K : Nat} (hh : h < K) (hK : K ≤ 1000000) : wrap64 ((h : Int) + 1) = ((h + 1 : Nat) : Int) := by unfold wrap64; omega
theorem up_v {h K : Nat} (hh : h < K) (hK : K ≤ 1000000) : Value.int .i64 (wrap64 ((h : Int) + 1)) = .int .i64 ((h + 1 : Nat) : Int) := by rw [up_w hh hK]
theorem ms_1 {i h j : Nat} (h1 : i ≤ h) (h2 : h < j) : (intOf (.int .i64 (j : Int)) - intOf (.int .i64 ((h + 1 : Nat) : Int))).toNat < (intOf (.int .i64 (j : Int)) - intOf (.int .i64 (i : Int))).toNat := by simp [intOf]; omega
theorem ms_2 {i h j : Nat} (h1 : i ≤ h) (h2 : h < j) : (intOf (.int .i64 (h : Int)) - intOf (.int .i64 (i : Int))).toNat < (intOf (.int .i64 (j : Int)) - intOf (.int .i64 (i : Int))).toNat := by simp [intOf]; omega
/-- where x stands in a falling row -/
def FalAt (F : List Int) (x : Int) (p : Nat) : Prop := p ≤ F.length ∧ (∀ (j : Nat) y, F[j]? = some y → j < p → x < y) ∧ ∀ (j : Nat) y, F[j]? = some y → p ≤ j → y < x
set_option maxRecDepth 100000 in
set_option maxHeartbeats 1000000 in
theorem search_any {w : World} {K cap : Nat} {ta : Option Addr} {F : List Int} {x : Int} (hK : F.length = K) (hK2 : K ≤ 1000000) (hc : K = 0 ∨ ∃ q, ta = some ⟨q, 0, none⟩ ∧ ∀ (j : Nat) y, F[j]? = some y → w.cell? ⟨q, 0 + j, none⟩ = some (.int .i64 y)) (hs : F.Pairwise (fun a b => b < a)) (hx : x ∉ F) :
    Calls Tryd.prog 110 #[.slice ta K cap, .int .i64 x, .func (.func 111) #[] #[]] w fun e w' => ∃ p : Nat, e = .returned (.tuple #[.int .i64 p, .bool false]) ∧ FalAt F x p ∧ w' = w := by
  have HC := hid_mk hc
  have HS : Hid (∀ (i j : Nat) a b, F[i]? = some a → F[j]? = some b → i < j → b < a) := hid_mk fun i j a b ha hb hij => by
    obtain ⟨h1, h2⟩ := List.getElem?_eq_some_iff.1 ha
    obtain ⟨h3, h4⟩ := List.getElem?_eq_some_iff.1 hb
    rw [← h2, ← h4]
    exact List.pairwise_iff_getElem.1 hs i j h1 h3 hij
  have HX : Hid (∀ (j : Nat) y, F[j]? = some y → y ≠ x) := hid_mk fun j y hj e => hx (e ▸ List.mem_of_getElem? hj)
  have HK := hid_mk hK
  have HK2 := hid_mk hK2
  clear hc hs hx hK hK2
  go_enter Tryd.func110, Tryd.ntmps110
  go_wp2
  go_loopw [9, 10] (fun a b wr => ∃ i j : Nat, a = .int .i64 i ∧ b = .int .i64 j ∧ i ≤ j ∧ j ≤ K ∧ wr = w ∧ (∀ (m : Nat) y, F[m]? = some y → m < i → x < y) ∧ ∀ (m : Nat) y, F[m]? = some y → j ≤ m → y < x) (fun a b _ => (intOf b - intOf a).toNat)
  case atStart =>
    refine ⟨0, K, rfl, rfl, Nat.zero_le _, Nat.le_refl _, rfl, fun m y _ h => absurd h (Nat.not_lt_zero _), fun m y h h2 => ?_⟩
    have := (List.getElem?_eq_some_iff.1 h).1
    have := HK.out
    omega
  case round =>
    obtain ⟨i, j, rfl, rfl, hij, hjK, rfl, hlo, hhi⟩ := hrel
    have HLo := hid_mk hlo
    have HHi := hid_mk hhi
    clear hlo hhi
    by_cases hgo : i < j
    · have hd : decide ((i : Int) < (j : Int)) = true := by simp; omega
      have hd2 : decide (i < j) = true := by simp; omega
      obtain ⟨h, hh⟩ : ∃ h : Nat, (i + j) / 2 = h := ⟨_, rfl⟩
      have hm := mid_any hgo (by have := HK2.out; omega)
      rw [hh] at hm
      have hb1 : i ≤ h := by omega
      have hb2 : h < j := by omega
      obtain ⟨y, hy⟩ : ∃ y, F[h]? = some y := ⟨_, List.getElem?_eq_getElem (by have := HK.out; omega)⟩
      obtain ⟨q, rfl, hcq⟩ : ∃ q, ta = some ⟨q, 0, none⟩ ∧ ∀ (j : Nat) y, F[j]? = some y → wr.cell? ⟨q, 0 + j, none⟩ = some (.int .i64 y) := by
        rcases HC.out with c | c
        · omega
        · exact c
      have hc1 := hcq h y hy
      have hi2 : (h : Int) < (K : Int) := by omega
      have hi3 : h < K := by omega
      have HY := hid_mk hy
      have HB := hid_mk (And.intro hb1 hb2)
      have HJ := hid_mk (And.intro hjK hgo)
      rw [Nat.zero_add] at hc1
      clear hcq hy hh hb1 hb2 hjK hij hgo
      rcases Int.lt_trichotomy x y with hxy | hxy | hxy
      · have hn := cm_neg hxy
        have HXY := hid_mk hxy
        clear hxy
        have HH : Hid (h < K) := hid_mk hi3
        go_wp2_with (go_at_call 111; refine calls_same (fall_any _ _ _) ?_)
        go_roundw
        case rel =>
          have := HB.out
          have := HJ.out
          refine ⟨h + 1, j, up_v HH.out HK2.out, rfl, by omega, by omega, (by first | rfl | trivial), fun m z hz hmh => ?_, fun m z hz hmj => HHi.out m z hz hmj⟩
          by_cases hme : m = h
          · subst hme
            have := HY.out
            rw [hz] at this
            cases this
            exact HXY.out
          · have := HS.out m h z y hz HY.out (by omega)
            have := HXY.out
            omega
        case measure =>
          rw [up_w HH.out HK2.out]
          exact ms_1 HB.out.1 HB.out.2
      · exact absurd hxy.symm (HX.out h y HY.out)
      · have hn := (cm_pos hxy).1
        have HXY := hid_mk hxy
        clear hxy
        go_wp2_with (go_at_call 111; refine calls_same (fall_any _ _ _) ?_)
        go_roundw
        case rel =>
          have := HB.out
          have := HJ.out
          refine ⟨i, h, rfl, rfl, by omega, by omega, (by first | rfl | trivial), fun m z hz hmi => HLo.out m z hz hmi, fun m z hz hmh => ?_⟩
          by_cases hme : m = h
          · subst hme
            have := HY.out
            rw [hz] at this
            cases this
            exact HXY.out
          · have := HS.out h m y z HY.out hz (by omega)
            have := HXY.out
            omega
        case measure => exact ms_2 HB.out.1 HB.out.2
    · obtain rfl : i = j := by omega
      have hd : decide ((i : Int) < (i : Int)) = false := by simp
      have HP : Hid (FalAt F x i) := hid_mk ⟨by have := HK.out; omega, HLo.out, HHi.out⟩
      by_cases hiK : i < K
      · have he : decide ((i : Int) < (K : Int)) = true := by simp; omega
        have he2 : decide (i < K) = true := by simp; omega
        obtain ⟨y, hy⟩ : ∃ y, F[i]? = some y := ⟨_, List.getElem?_eq_getElem (by have := HK.out; omega)⟩
        obtain ⟨q, rfl, hcq⟩ : ∃ q, ta = some ⟨q, 0, none⟩ ∧ ∀ (j : Nat) y, F[j]? = some y → wr.cell? ⟨q, 0 + j, none⟩ = some (.int .i64 y) := by
          rcases HC.out with c | c
          · omega
          · exact c
        have hc1 := hcq i y hy
        have hi2 : (i : Int) < (K : Int) := by omega
        have hxy : y < x := HHi.out i y hy (Nat.le_refl _)
        have hn := (cm_pos hxy).2
        rw [Nat.zero_add] at hc1
        clear hcq hy hij hgo hjK
        go_wp2_with (go_at_call 111; refine calls_same (fall_any _ _ _) ?_)
        go_ret2
        exact ⟨i, rfl, HP.out, rfl⟩
      · have he : decide ((i : Int) < (K : Int)) = false := by simp; omega
        have he2 : decide (i < K) = false := by simp; omega
        clear hij hgo hjK
        go_wp2
        go_ret2
        exact ⟨i, rfl, HP.out, rfl⟩
end Go.Proofs.YtkghabmgofgclaaDoor
