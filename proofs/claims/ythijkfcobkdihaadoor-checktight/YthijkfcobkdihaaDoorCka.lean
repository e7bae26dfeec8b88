/- package check: the numbers -/
import Derived.Test.YthijkfcobkdihaaDoorUe
namespace Go.Proofs.YthijkfcobkdihaaDoor
set_option linter.unusedVariables false
set_option linter.unusedSimpArgs false

/-- the captures of the function of a number -/
def cpV (fs : List (Int × Int × Int × List (Int × Int))) (a : Int) : Int := ((fs[a.toNat]?).map fun f => f.2.2.1).getD 0
/-- what an instruction takes, where that does not hang on its operand -/
def tkS (op : Int) : Int :=
  if op ∈ [1, 2, 3, 4, 5, 6, 8, 9, 14, 70] then 0
  else if op ∈ [7, 10, 11, 12, 15, 19, 20, 21, 22, 31, 32, 35, 36, 41, 42, 46, 47, 59, 60, 61, 62, 64, 65, 68, 69, 74, 75] then 1
  else if op ∈ [40, 71, 72] then 3 else 2
def tkV (fs : List (Int × Int × Int × List (Int × Int))) (x : Int × Int) : Int := if x.1 = 16 then cpV fs x.2 else if x.1 = 17 ∨ x.1 = 18 then x.2 + 1 else tkS x.1
/-- what it puts -/
def ptV (op : Int) : Int := if op ∈ [7, 10, 11, 14, 15, 18, 19, 21, 22] then 0 else if op ∈ [12, 13] then 2 else 1
/-- does it go on at the next one; does it jump -/
def goB (op : Int) : Bool := !(op == 14 || op == 18 || op == 19 || op == 21 || op == 22)
def juB (op : Int) : Bool := op == 14 || op == 15
/-- is an operand right -/
def rtB (g : Int) (nt nf : Nat) (lo ca : Int) (x : Int × Int) : Bool :=
  if x.1 = 2 then decide (x.2 ≤ 1114111 ∧ (x.2 < 55296 ∨ 57343 < x.2)) else if x.1 = 3 then decide (x.2 ≤ 4) else if x.1 = 4 then decide (x.2 < nt)
  else if x.1 = 6 ∨ x.1 = 7 then decide (x.2 < lo) else if x.1 = 8 then decide (x.2 < ca) else if x.1 = 9 ∨ x.1 = 10 then decide (x.2 < g)
  else if x.1 = 16 then decide (x.2 < nf) else if x.1 = 17 ∨ x.1 = 18 then decide (x.2 ≤ 8) else true
/-- the first instruction that is wrong by itself -/
def ptI (rt : Int × Int → Bool) (n : Nat) : Nat → List (Int × Int) → Option (Int × Nat)
  | _, [] => none
  | i, x :: l => if rt x = false then some (72, i) else if juB x.1 = true ∧ (n : Int) ≤ x.2 then some (73, i) else ptI rt n (i + 1) l
/-- the first function that is wrong so -/
def ptF (g : Int) (nt nf : Nat) : Nat → List (Int × Int × Int × List (Int × Int)) → Option (Int × Nat × Nat)
  | _, [] => none
  | k, f :: l => if f.2.1 < f.1 ∨ f.2.2.2 = [] then some (71, k, 0) else
    match ptI (rtB g nt nf f.2.1 f.2.2.1) f.2.2.2.length 0 f.2.2.2 with
    | some (e, i) => some (e, k, i)
    | none => ptF g nt nf (k + 1) l

/-- a number among rising ones -/
def insF (j : Nat) : List Nat → List Nat
  | [] => [j]
  | a :: R => if a < j then a :: insF j R else j :: a :: R
/-- on to an instruction with a depth -/
def onF (s : List Int × List Nat) (j : Nat) (d : Int) : Option (List Int × List Nat) :=
  if s.1[j]? = some (-1) then some (s.1.set j d, insF j s.2) else if s.1[j]? = some d then some s else none
/-- on to the next one -/
def nxF (n i : Nat) (op : Int) (d : Int) (s : List Int × List Nat) : Sum Int (List Int × List Nat) :=
  if goB op = true then (if i + 1 < n then (match onF s (i + 1) d with | some s1 => .inr s1 | none => .inl 76) else .inl 77) else .inr s
/-- and on to the one at A -/
def juF (op a : Int) (d : Int) (s : List Int × List Nat) : Sum Int (List Int × List Nat) :=
  if juB op = true then (match onF s a.toNat d with | some s2 => .inr s2 | none => .inl 76) else .inr s
/-- through an instruction -/
def stF (t : Int) (n i : Nat) (x : Int × Int) (s : List Int × List Nat) : Sum Int (List Int × List Nat) :=
  if s.1.getD i 0 - t < 0 then .inl 74 else if 64 < s.1.getD i 0 - t + ptV x.1 then .inl 75 else
    match nxF n i x.1 (s.1.getD i 0 - t + ptV x.1) s with
    | .inl e => .inl e
    | .inr s1 => juF x.1 x.2 (s.1.getD i 0 - t + ptV x.1) s1
/-- the ways -/
def wyF (tk : Int × Int → Int) (C : List (Int × Int)) : Nat → List Int × List Nat → Sum (Int × Nat) (List Int)
  | 0, s => .inr s.1
  | k + 1, (D, []) => .inr D
  | k + 1, (D, i :: R) => match stF (tk (C.getD i (0, 0))) C.length i (C.getD i (0, 0)) (D, R) with
    | .inl e => .inl (e, i)
    | .inr s => wyF tk C k s
def wy0 (n : Nat) : List Int × List Nat := ((List.replicate n (-1)).set 0 0, [0])
def wyA (fs : List (Int × Int × Int × List (Int × Int))) (C : List (Int × Int)) : Sum (Int × Nat) (List Int) := wyF (tkV fs) C C.length (wy0 C.length)
/-- the greatest of some numbers -/
def mxL : List Int → Int
  | [] => 0
  | x :: l => max x (mxL l)
def gnF (fs : List (Int × Int × Int × List (Int × Int))) : Nat → List Int → List (List Int) → List (Int × Int × Int × List (Int × Int)) → Sum (Int × Nat × Nat) (List Int × List (List Int))
  | _, S, Ds, [] => .inr (S, Ds)
  | k, S, Ds, f :: l => match wyA fs f.2.2.2 with
    | .inl (e, i) => .inl (e, k, i)
    | .inr D => gnF fs (k + 1) (S ++ [f.2.1 + mxL D]) (Ds ++ [D]) l
/-- what Check tells of a program that can be written -/
def chF (x : Int) (nt : Nat) (fs : List (Int × Int × Int × List (Int × Int))) : Sum (Int × Nat × Nat) (List Int × List (List Int)) :=
  if (0 < (fs.map fun f => f.1).headD 0) ∨ 0 < (fs.map fun f => f.2.2.1).headD 0 then .inl (70, 0, 0) else
  match ptF x nt fs.length 0 fs with
  | some e => .inl e
  | none => gnF fs 0 [] [] fs

theorem ins_mem {j a : Nat} : ∀ {R : List Nat}, a ∈ insF j R ↔ a = j ∨ a ∈ R
  | [] => by simp [insF]
  | b :: R => by
    unfold insF
    split
    · rw [List.mem_cons, ins_mem (R := R), List.mem_cons]
      constructor
      · rintro (h | h | h)
        · exact .inr (.inl h)
        · exact .inl h
        · exact .inr (.inr h)
      · rintro (h | h | h)
        · exact .inr (.inl h)
        · exact .inl h
        · exact .inr (.inr h)
    · simp
theorem ins_len {j : Nat} : ∀ {R : List Nat}, (insF j R).length = R.length + 1
  | [] => rfl
  | b :: R => by
    unfold insF
    split
    · simp [ins_len (R := R)]
    · simp
theorem ins_sort {j : Nat} : ∀ {R : List Nat}, R.Pairwise (· < ·) → j ∉ R → (insF j R).Pairwise (· < ·)
  | [], _, _ => by simp [insF]
  | b :: R, h, hj => by
    rw [List.pairwise_cons] at h
    rw [List.mem_cons] at hj
    unfold insF
    split
    · rename_i hb
      rw [List.pairwise_cons]
      refine ⟨fun a ha => ?_, ins_sort h.2 (fun q => hj (.inr q))⟩
      rcases ins_mem.1 ha with rfl | ha
      · exact hb
      · exact h.1 a ha
    · rename_i hb
      have hbj : j < b := by
        have : j ≠ b := fun q => hj (.inl q)
        omega
      rw [List.pairwise_cons]
      refine ⟨fun a ha => ?_, List.pairwise_cons.2 h⟩
      rcases List.mem_cons.1 ha with rfl | ha
      · exact hbj
      · exact Nat.lt_trans hbj (h.1 a ha)
/-- how many are not known -/
def unk (D : List Int) : Nat := (D.filter fun d => d == -1).length
theorem unk_set : ∀ {D : List Int} {j : Nat} {d : Int}, D[j]? = some (-1) → 0 ≤ d → unk (D.set j d) + 1 = unk D
  | [], j, d, h, _ => by simp at h
  | x :: D, 0, d, h, hd => by
    have hx : x = -1 := by simpa using h
    subst hx
    have h1 : (d == -1) = false := by simp; omega
    simp [unk, h1]
  | x :: D, j + 1, d, h, hd => by
    have := unk_set (D := D) (j := j) (d := d) (by simpa using h) hd
    unfold unk at *
    rw [List.set_cons_succ, List.filter_cons, List.filter_cons]
    split
    · simp only [List.length_cons]; omega
    · exact this
/-- the walk's state is in order -/
def WO (n : Nat) (s : List Int × List Nat) : Prop := s.1.length = n ∧ (∀ (j : Nat) d, s.1[j]? = some d → -1 ≤ d ∧ d ≤ 64) ∧ s.2.Pairwise (· < ·) ∧ ∀ j ∈ s.2, ∃ d, s.1[j]? = some d ∧ 0 ≤ d
theorem WO.in {n : Nat} {s : List Int × List Nat} (h : WO n s) {j : Nat} (hj : j ∈ s.2) : j < n := by
  obtain ⟨d, h1, _⟩ := h.2.2.2 j hj
  rw [← h.1]
  exact (List.getElem?_eq_some_iff.1 h1).1
theorem WO.not {n : Nat} {s : List Int × List Nat} (h : WO n s) {j : Nat} (hj : s.1[j]? = some (-1)) : j ∉ s.2 := fun q => by
  obtain ⟨d, h1, h2⟩ := h.2.2.2 j q
  rw [hj] at h1
  have := Option.some.inj h1
  omega
/-- one step on -/
theorem on_ok {n j : Nat} {s s' : List Int × List Nat} {d : Int} (h : WO n s) (h0 : 0 ≤ d) (h1 : d ≤ 64) (e : onF s j d = some s') : WO n s' ∧ unk s'.1 + s'.2.length = unk s.1 + s.2.length ∧ s'.1[j]? = some d ∧
    (∀ (k : Nat) x, s.1[k]? = some x → x ≠ -1 → s'.1[k]? = some x) ∧ (∀ (k : Nat) x, s'.1[k]? = some x → x ≠ -1 → s.1[k]? = some x ∨ k = j) ∧ (∀ k ∈ s.2, k ∈ s'.2) ∧ ∀ k ∈ s'.2, k ∈ s.2 ∨ s.1[k]? = some (-1) := by
  unfold onF at e
  split at e
  · rename_i hj
    obtain rfl := Option.some.inj e
    have hlt : j < s.1.length := (List.getElem?_eq_some_iff.1 hj).1
    refine ⟨⟨by simpa using h.1, ?_, ins_sort h.2.2.1 (h.not hj), ?_⟩, ?_, by simp [hlt], ?_, ?_, fun k hk => ins_mem.2 (.inr hk), ?_⟩
    · intro k x hk
      by_cases q : j = k
      · subst q; simp [hlt] at hk; omega
      · rw [List.getElem?_set_ne q] at hk; exact h.2.1 k x hk
    · intro k hk
      by_cases q : j = k
      · subst q; exact ⟨d, by simp [hlt], h0⟩
      · rcases ins_mem.1 hk with rfl | hk
        · exact absurd rfl q
        · simp only []
          rw [List.getElem?_set_ne q]
          exact h.2.2.2 k hk
    · have := unk_set hj h0
      simp only [ins_len]
      omega
    · intro k x hk hx
      by_cases q : j = k
      · subst q; rw [hj] at hk; exact absurd (Option.some.inj hk).symm hx
      · rw [List.getElem?_set_ne q]; exact hk
    · intro k x hk hx
      by_cases q : j = k
      · exact .inr q.symm
      · rw [List.getElem?_set_ne q] at hk; exact .inl hk
    · intro k hk
      rcases ins_mem.1 hk with rfl | hk
      · exact .inr hj
      · exact .inl hk
  · split at e
    · rename_i hj
      obtain rfl := Option.some.inj e
      exact ⟨h, rfl, hj, fun _ _ q _ => q, fun _ _ q _ => .inl q, fun _ q => q, fun _ q => .inl q⟩
    · cases e
theorem WO.tail {n : Nat} {D : List Int} {i : Nat} {R : List Nat} (h : WO n (D, i :: R)) : WO n (D, R) := ⟨h.1, h.2.1, (List.pairwise_cons.1 h.2.2.1).2, fun j hj => h.2.2.2 j (List.mem_cons.2 (.inr hj))⟩
theorem wo_start {n : Nat} (hn : 0 < n) : WO n (wy0 n) ∧ unk (wy0 n).1 + (wy0 n).2.length = n := by
  obtain ⟨m, rfl⟩ : ∃ m, n = m + 1 := ⟨n - 1, by omega⟩
  refine ⟨⟨by simp [wy0], ?_, by simp [wy0], ?_⟩, ?_⟩
  · intro j d hj
    cases j with
    | zero => simp [wy0, List.replicate_succ] at hj; omega
    | succ k =>
      simp [wy0, List.replicate_succ, List.getElem?_replicate] at hj
      omega
  · intro j hj
    simp [wy0] at hj
    subst hj
    exact ⟨0, by simp [wy0, List.replicate_succ], by omega⟩
  · have : (List.replicate m (-1 : Int)).filter (fun d => d == -1) = List.replicate m (-1) := List.filter_eq_self.2 fun a ha => by rw [List.eq_of_mem_replicate ha]; rfl
    simp [wy0, unk, List.replicate_succ]
/-- what a function's instructions do to the depths, gone through -/
def Thr (tk : Int × Int → Int) (C : List (Int × Int)) (D : List Int) (i : Nat) : Prop := ∃ x d, C[i]? = some x ∧ D[i]? = some d ∧ 0 ≤ d - tk x ∧ d - tk x + ptV x.1 ≤ 64 ∧ (goB x.1 = true → i + 1 < C.length ∧ D[i + 1]? = some (d - tk x + ptV x.1)) ∧ (juB x.1 = true → D[x.2.toNat]? = some (d - tk x + ptV x.1))
theorem Thr.more {tk : Int × Int → Int} {C : List (Int × Int)} {D D' : List Int} {i : Nat} (h : Thr tk C D i) (hp : ∀ x, 0 ≤ ptV x) (hm : ∀ (k : Nat) x, D[k]? = some x → x ≠ -1 → D'[k]? = some x) (hi : D[i]? ≠ some (-1)) : Thr tk C D' i := by
  obtain ⟨x, d, h1, h2, h3, h4, h5, h6⟩ := h
  have := hp x.1
  exact ⟨x, d, h1, hm _ _ h2 (by rintro rfl; exact hi h2), h3, h4, fun q => ⟨(h5 q).1, hm _ _ (h5 q).2 (by omega)⟩, fun q => hm _ _ (h6 q) (by omega)⟩
theorem pt_nn (op : Int) : 0 ≤ ptV op := by unfold ptV; split; decide; split <;> decide
/-- what leads to an instruction -/
def Led (C : List (Int × Int)) (D : List Int) (j : Nat) : Prop := j = 0 ∨ ∃ i x d, C[i]? = some x ∧ D[i]? = some d ∧ 0 ≤ d ∧ ((goB x.1 = true ∧ i + 1 = j) ∨ (juB x.1 = true ∧ x.2.toNat = j))
def WG (tk : Int × Int → Int) (C : List (Int × Int)) (s : List Int × List Nat) : Prop := WO C.length s ∧ s.1[0]? = some 0 ∧ (∀ (i : Nat) d, s.1[i]? = some d → d ≠ -1 → i ∉ s.2 → Thr tk C s.1 i) ∧ ∀ (j : Nat) d, s.1[j]? = some d → d ≠ -1 → Led C s.1 j
theorem Led.more {C : List (Int × Int)} {D D' : List Int} {j : Nat} (h : Led C D j) (hm : ∀ (k : Nat) x, D[k]? = some x → x ≠ -1 → D'[k]? = some x) : Led C D' j := by
  rcases h with h | ⟨i, x, d, h1, h2, h3, h4⟩
  · exact .inl h
  · exact .inr ⟨i, x, d, h1, hm _ _ h2 (by omega), h3, h4⟩
theorem st_inv {t : Int} {n i : Nat} {x : Int × Int} {s s' : List Int × List Nat} (e : stF t n i x s = .inr s') : 0 ≤ s.1.getD i 0 - t ∧ s.1.getD i 0 - t + ptV x.1 ≤ 64 ∧ ∃ s1, nxF n i x.1 (s.1.getD i 0 - t + ptV x.1) s = .inr s1 ∧ juF x.1 x.2 (s.1.getD i 0 - t + ptV x.1) s1 = .inr s' := by
  unfold stF at e
  split at e
  · cases e
  split at e
  · cases e
  rename_i h1 h2
  split at e
  · cases e
  · rename_i s1 h3
    exact ⟨by omega, by omega, s1, h3, e⟩
theorem nx_inv {n i : Nat} {op d : Int} {s s1 : List Int × List Nat} (e : nxF n i op d s = .inr s1) : (goB op = true ∧ i + 1 < n ∧ onF s (i + 1) d = some s1) ∨ (goB op = false ∧ s1 = s) := by
  unfold nxF at e
  split at e
  · rename_i h
    split at e
    · rename_i h2
      split at e
      · rename_i s2 h3
        cases e
        exact .inl ⟨h, h2, h3⟩
      · cases e
    · cases e
  · rename_i h
    cases e
    exact .inr ⟨by simpa using h, rfl⟩
theorem ju_inv {op a d : Int} {s s1 : List Int × List Nat} (e : juF op a d s = .inr s1) : (juB op = true ∧ onF s a.toNat d = some s1) ∨ (juB op = false ∧ s1 = s) := by
  unfold juF at e
  split at e
  · rename_i h
    split at e
    · rename_i s2 h3
      cases e
      exact .inl ⟨h, h3⟩
    · cases e
  · rename_i h
    cases e
    exact .inr ⟨by simpa using h, rfl⟩
/-- a step keeps the state in order -/
theorem st_wo {t : Int} {n i : Nat} {x : Int × Int} {s s' : List Int × List Nat} (h : WO n s) (e : stF t n i x s = .inr s') : WO n s' ∧ unk s'.1 + s'.2.length = unk s.1 + s.2.length := by
  obtain ⟨h1, h2, s1, e1, e2⟩ := st_inv e
  have hp := pt_nn x.1
  have g1 : WO n s1 ∧ unk s1.1 + s1.2.length = unk s.1 + s.2.length := by
    rcases nx_inv e1 with ⟨_, _, q⟩ | ⟨_, rfl⟩
    · obtain ⟨a, b, _⟩ := on_ok h (by omega) h2 q; exact ⟨a, b⟩
    · exact ⟨h, rfl⟩
  rcases ju_inv e2 with ⟨_, q⟩ | ⟨_, rfl⟩
  · obtain ⟨a, b, _⟩ := on_ok g1.1 (by omega) h2 q; exact ⟨a, by omega⟩
  · exact g1
theorem st_wg {tk : Int × Int → Int} {C : List (Int × Int)} {D : List Int} {R : List Nat} {i : Nat} {x : Int × Int} {s' : List Int × List Nat} (h : WG tk C (D, i :: R)) (hx : C[i]? = some x) (e : stF (tk x) C.length i x (D, R) = .inr s') : WG tk C s' := by
  obtain ⟨hW, hz, hT, hL⟩ := h
  obtain ⟨h1, h2, s1, e1, e2⟩ := st_inv e
  have hp := pt_nn x.1
  obtain ⟨d, hd, hd0⟩ := hW.2.2.2 i (List.mem_cons.2 (.inl rfl))
  have hg : D.getD i 0 = d := by rw [List.getD_eq_getElem?_getD, hd]; rfl
  simp only [hg] at h1 h2 e1 e2
  have hni : i ∉ R := fun q => by have := (List.pairwise_cons.1 hW.2.2.1).1 i q; omega
  have hW' := hW.tail
  have g1 : WO C.length s1 ∧ (∀ (k : Nat) y, D[k]? = some y → y ≠ -1 → s1.1[k]? = some y) ∧ (∀ (k : Nat) y, s1.1[k]? = some y → y ≠ -1 → D[k]? = some y ∨ (goB x.1 = true ∧ k = i + 1)) ∧ (∀ k ∈ R, k ∈ s1.2) ∧ (∀ k ∈ s1.2, k ∈ R ∨ D[k]? = some (-1)) ∧ (∀ (k : Nat) y, s1.1[k]? = some y → y ≠ -1 → k ∉ s1.2 → D[k]? = some y) ∧ (goB x.1 = true → i + 1 < C.length ∧ s1.1[i + 1]? = some (d - tk x + ptV x.1)) := by
    rcases nx_inv e1 with ⟨q0, q1, q⟩ | ⟨q0, rfl⟩
    · obtain ⟨a, _, b, c, c2, c3, c4⟩ := on_ok hW' (by omega) h2 q
      refine ⟨a, c, fun k y u v => (c2 k y u v).imp_right fun z => ⟨q0, z⟩, c3, c4, ?_, fun _ => ⟨q1, b⟩⟩
      intro k y u v z
      rcases c2 k y u v with r | rfl
      · exact r
      · unfold onF at q
        split at q
        · obtain rfl := Option.some.inj q
          exact absurd (ins_mem.2 (.inl rfl)) z
        · split at q
          · obtain rfl := Option.some.inj q; exact u
          · cases q
    · exact ⟨hW', fun _ _ q _ => q, fun _ _ q _ => .inl q, fun _ q => q, fun _ q => .inl q, fun _ _ q _ _ => q, fun q => by rw [q0] at q; cases q⟩
  obtain ⟨a1, a2, a3, a4, a5, a6, a7⟩ := g1
  have g2 : WO C.length s' ∧ (∀ (k : Nat) y, s1.1[k]? = some y → y ≠ -1 → s'.1[k]? = some y) ∧ (∀ (k : Nat) y, s'.1[k]? = some y → y ≠ -1 → s1.1[k]? = some y ∨ (juB x.1 = true ∧ k = x.2.toNat)) ∧ (∀ k ∈ s1.2, k ∈ s'.2) ∧ (∀ (k : Nat) y, s'.1[k]? = some y → y ≠ -1 → k ∉ s'.2 → s1.1[k]? = some y) ∧ (juB x.1 = true → s'.1[x.2.toNat]? = some (d - tk x + ptV x.1)) := by
    rcases ju_inv e2 with ⟨q0, q⟩ | ⟨q0, rfl⟩
    · obtain ⟨a, _, b, c, c2, c3, c4⟩ := on_ok a1 (by omega) h2 q
      refine ⟨a, c, fun k y u v => (c2 k y u v).imp_right fun z => ⟨q0, z⟩, c3, ?_, fun _ => b⟩
      intro k y u v z
      rcases c2 k y u v with r | rfl
      · exact r
      · unfold onF at q
        split at q
        · obtain rfl := Option.some.inj q
          exact absurd (ins_mem.2 (.inl rfl)) z
        · split at q
          · obtain rfl := Option.some.inj q; exact u
          · cases q
    · exact ⟨a1, fun _ _ q _ => q, fun _ _ q _ => .inl q, fun _ q => q, fun _ _ q _ _ => q, fun q => by rw [q0] at q; cases q⟩
  obtain ⟨b1, b2, b3, b4, b5, b6⟩ := g2
  have hm : ∀ (k : Nat) y, D[k]? = some y → y ≠ -1 → s'.1[k]? = some y := fun k y u v => b2 k y (a2 k y u v) v
  refine ⟨b1, hm 0 0 hz (by decide), ?_, ?_⟩
  · intro k y u v z
    have hk1 := b5 k y u v z
    have hk : D[k]? = some y := a6 k y hk1 v (fun q => z (b4 k q))
    by_cases hki : k = i
    · subst hki
      exact ⟨x, d, hx, hm _ _ hd (by omega), h1, h2, fun q => ⟨(a7 q).1, b2 _ _ (a7 q).2 (by omega)⟩, b6⟩
    · refine (hT k y hk v (fun q => ?_)).more pt_nn hm (by rw [hk]; intro q; exact v (Option.some.inj q))
      rcases List.mem_cons.1 q with q | q
      · exact hki q
      · exact z (b4 k (a4 k q))
  · intro j y u v
    rcases b3 j y u v with r | ⟨r0, rfl⟩
    · rcases a3 j y r v with r | ⟨r0, rfl⟩
      · exact (hL j y r v).more hm
      · exact .inr ⟨i, x, d, hx, hm _ _ hd (by omega), hd0, .inl ⟨r0, rfl⟩⟩
    · exact .inr ⟨i, x, d, hx, hm _ _ hd (by omega), hd0, .inr ⟨r0, rfl⟩⟩
theorem at_getD {C : List (Int × Int)} {i : Nat} (h : i < C.length) : C[i]? = some (C.getD i (0, 0)) := by
  rw [List.getD_eq_getElem?_getD, List.getElem?_eq_getElem h]; rfl
/-- all that is known when the ways are gone -/
theorem wy_end {tk : Int × Int → Int} {C : List (Int × Int)} : ∀ {k : Nat} {s : List Int × List Nat} {D : List Int}, WG tk C s → unk s.1 + s.2.length ≤ k → wyF tk C k s = .inr D → WG tk C (D, [])
  | 0, (D0, R), D, h, hk, e => by
    have h1 : unk D0 + R.length = 0 := by simpa using hk
    obtain rfl : R = [] := List.eq_nil_of_length_eq_zero (by omega)
    simp only [wyF, Sum.inr.injEq] at e
    subst e
    exact h
  | k + 1, (D0, []), D, h, hk, e => by
    simp only [wyF, Sum.inr.injEq] at e
    subst e
    exact h
  | k + 1, (D0, i :: R), D, h, hk, e => by
    simp only [wyF] at e
    split at e
    · cases e
    · rename_i s' h2
      have hi := h.1.in (List.mem_cons.2 (.inl rfl))
      have := (st_wo h.1.tail h2).2
      simp only [List.length_cons] at this hk
      exact wy_end (st_wg h (at_getD hi) h2) (by omega) e
theorem wg_start {tk : Int × Int → Int} {C : List (Int × Int)} (h : C ≠ []) : WG tk C (wy0 C.length) := by
  have hn : 0 < C.length := List.length_pos_iff.2 h
  refine ⟨(wo_start hn).1, ?_, ?_, ?_⟩
  · obtain ⟨m, hm⟩ : ∃ m, C.length = m + 1 := ⟨C.length - 1, by omega⟩
    rw [hm]; simp [wy0, List.replicate_succ]
  · intro i d hi hd hn2
    exfalso
    cases i with
    | zero => simp [wy0] at hn2
    | succ k =>
      obtain ⟨m, hm⟩ : ∃ m, C.length = m + 1 := ⟨C.length - 1, by omega⟩
      rw [hm] at hi
      simp [wy0, List.replicate_succ, List.getElem?_replicate] at hi
      omega
  · intro i d hi hd
    cases i with
    | zero => exact .inl rfl
    | succ k =>
      exfalso
      obtain ⟨m, hm⟩ : ∃ m, C.length = m + 1 := ⟨C.length - 1, by omega⟩
      rw [hm] at hi
      simp [wy0, List.replicate_succ, List.getElem?_replicate] at hi
      omega
theorem wyA_end {fs : List (Int × Int × Int × List (Int × Int))} {C : List (Int × Int)} {D : List Int} (h : C ≠ []) (e : wyA fs C = .inr D) : WG (tkV fs) C (D, []) := by
  have hn : 0 < C.length := List.length_pos_iff.2 h
  exact wy_end (wg_start h) (Nat.le_of_eq (wo_start hn).2) e
end Go.Proofs.YthijkfcobkdihaaDoor
