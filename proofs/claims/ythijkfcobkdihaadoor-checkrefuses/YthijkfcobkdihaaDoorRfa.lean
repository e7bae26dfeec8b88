/- the law CheckRefuses: its numbers -/
import Derived.Test.YthijkfcobkdihaaDoorCku
import Derived.Test.YthijkfcobkdihaaDoorCkw
namespace Go.Proofs.YthijkfcobkdihaaDoor
open Go.RowKit
set_option linter.unusedVariables false
set_option linter.unusedSimpArgs false

/-- the function behind, and the program -/
def reG : Int × Int × Int × List (Int × Int) := (1, 1, 2, [(6, 0), (19, 0)])
def reF (P C : Int) (l : List (Int × Int)) : List (Int × Int × Int × List (Int × Int)) := [(P, 2, C, l), reG]
def preL (n : Nat) : List (Int × Int) := (List.range n).map fun (i : Nat) => ((1 : Int), (i : Int))
theorem pre_up (n : Nat) : preL (n + 1) = preL n ++ [(1, (n : Int))] := by simp [preL, List.range_succ]
theorem pre_len (n : Nat) : (preL n).length = n := by simp [preL]
theorem pre_mem {n : Nat} {x : Int × Int} (h : x ∈ preL n) : ∃ i : Nat, i < n ∧ x = (1, (i : Int)) := by
  simp only [preL, List.mem_map, List.mem_range] at h
  obtain ⟨i, h1, rfl⟩ := h
  exact ⟨i, h1, rfl⟩
/-- an instruction that can be written, of a small operand -/
def smI (x : Int × Int) : Prop := okI x ∧ (0 ≤ x.1 ∧ x.1 ≤ 75) ∧ 0 ≤ x.2 ∧ x.2 ≤ 2000000
theorem sm_1 {a : Int} (h : 0 ≤ a ∧ a ≤ 2000000) : smI (1, a) := ⟨⟨by simp [opS], by simp [opS], by simp [opS], by simp [opS]; omega, by simp [opS]⟩, by simp, h⟩
theorem sm_2 {op a : Int} (ho : opS op = 2) (h2 : 0 ≤ op ∧ op ≤ 75) (h : 0 ≤ a ∧ a ≤ 2000000) : smI (op, a) := ⟨⟨by simp [ho], by simp [ho], by simp; omega, by simp [ho], by simp [ho]⟩, h2, h⟩
theorem sm_0 {op : Int} (ho : opS op = 1) (h2 : 0 ≤ op ∧ op ≤ 75) : smI (op, 0) := ⟨⟨by simp [ho], by simp, by simp, by simp, by simp⟩, h2, by simp⟩
theorem sm_pre {n : Nat} (h : n ≤ 64) : ∀ x ∈ preL n, smI x := fun x hx => by
  obtain ⟨i, h1, rfl⟩ := pre_mem hx
  exact sm_1 (by omega)
theorem sm_app {l m : List (Int × Int)} (h : ∀ x ∈ l, smI x) (h2 : ∀ x ∈ m, smI x) : ∀ x ∈ l ++ m, smI x := fun x hx => by
  rcases List.mem_append.1 hx with q | q
  · exact h x q
  · exact h2 x q
theorem sm_rep {n : Nat} {y : Int × Int} (h : smI y) : ∀ x ∈ List.replicate n y, smI x := fun x hx => by
  rw [List.eq_of_mem_replicate hx]; exact h
theorem sm_enc {x : Int × Int} (h : smI x) : (encI x).length ≤ 12 := by
  obtain ⟨_, _, h1, h2⟩ := h
  unfold encI opB
  rw [List.length_cons]
  have a1 : (numB x.2.toNat).length ≤ 10 := numB_len (k := 9) (by omega)
  have a2 : (numB (zig x.2)).length ≤ 10 := numB_len (k := 9) (by unfold zig; split <;> omega)
  have a3 : (le8 x.2).length = 8 := by unfold le8; simp
  split
  · omega
  split
  · omega
  split
  · omega
  · simp
theorem sm_fm : ∀ {l : List (Int × Int)}, (∀ x ∈ l, smI x) → (l.flatMap encI).length ≤ l.length * 12
  | [], _ => by simp
  | x :: l, h => by
    have h1 := sm_enc (h x (by simp))
    have h2 := sm_fm (l := l) fun y hy => h y (by simp [hy])
    rw [List.flatMap_cons, List.length_append, List.length_cons]
    omega
theorem re_ok {P C : Int} {l : List (Int × Int)} (hP : 0 ≤ P ∧ P ≤ 8) (hC : 0 ≤ C ∧ C ≤ 64) (hl : l.length ≤ 300) (h : ∀ x ∈ l, smI x) : okP (1, [[65]], reF P C l) := by
  refine ⟨by simp, by simp, by intro t ht; simp at ht; subst ht; simp [okT], by simp [reF], ?_⟩
  intro f hf
  simp only [reF, List.mem_cons, List.not_mem_nil, or_false] at hf
  rcases hf with rfl | rfl
  · exact ⟨hP, by simp, hC, by simp; omega, fun x hx => (h x hx).1⟩
  · refine ⟨by simp [reG], by simp [reG], by simp [reG], by simp [reG], ?_⟩
    intro x hx
    simp only [reG, List.mem_cons, List.not_mem_nil, or_false] at hx
    rcases hx with rfl | rfl
    · exact (sm_2 (by simp [opS]) (by simp) (by simp)).1
    · exact (sm_0 (by simp [opS]) (by simp)).1
theorem re_wr {P C : Int} {l : List (Int × Int)} (hP : 0 ≤ P ∧ P ≤ 8) (hC : 0 ≤ C ∧ C ≤ 64) (hl : l.length ≤ 300) (h : ∀ x ∈ l, smI x) : wrE (1, [[65]], reF P C l) = 0 := by
  refine (wr_ok (re_ok hP hC hl h) ?_).1
  have h1 := sm_fm h
  have a1 : (numB P.toNat).length ≤ 10 := numB_len (k := 9) (by omega)
  have a2 : (numB C.toNat).length ≤ 10 := numB_len (k := 9) (by omega)
  have a3 : (numB l.length).length ≤ 10 := numB_len (k := 9) (by omega)
  simp only [encP, reF, reG, List.flatMap_cons, List.flatMap_nil, encF, encT, List.length_append, List.length_cons, List.length_nil]
  have b1 : (numB (2 : Int).toNat).length ≤ 10 := numB_len (k := 9) (by decide)
  have b2 : (numB (1 : Int).toNat).length ≤ 10 := numB_len (k := 9) (by decide)
  have b3 : (numB (0 + 1)).length ≤ 10 := numB_len (k := 9) (by decide)
  have b4 : (numB (0 + 1 + 1)).length ≤ 10 := numB_len (k := 9) (by decide)
  have b5 : (encI (6, 0)).length ≤ 12 := sm_enc (sm_2 (by simp [opS]) (by simp) (by simp))
  have b6 : (encI (19, 0)).length ≤ 12 := sm_enc (sm_0 (by simp [opS]) (by simp))
  omega
theorem re_mi {P C : Int} {l : List (Int × Int)} (h : ∀ x ∈ l, smI x) : ∀ f ∈ reF P C l, MI f.2.2.2 := by
  intro f hf
  simp only [reF, List.mem_cons, List.not_mem_nil, or_false] at hf
  rcases hf with rfl | rfl
  · intro x hx
    have := (h x hx).2
    omega
  · intro x hx
    simp only [reG, List.mem_cons, List.not_mem_nil, or_false] at hx
    rcases hx with rfl | rfl <;> simp
/-- what Check tells: from here on the numbers alone -/
theorem re_ck {P C : Int} {l : List (Int × Int)} (hP : 0 ≤ P ∧ P ≤ 8) (hC : 0 ≤ C ∧ C ≤ 64) (hl : l.length ≤ 300) (h : ∀ x ∈ l, smI x) : ckV (1, [[65]], reF P C l) = chF 1 1 (reF P C l) := by
  unfold ckV
  rw [if_pos (re_wr hP hC hl h)]
  rfl
theorem ptI_at {rt : Int × Int → Bool} {n : Nat} {x : Int × Int} {m : List (Int × Int)} (hx : rt x = false) : ∀ {l : List (Int × Int)} {i : Nat}, (∀ y ∈ l, rt y = true ∧ juB y.1 = false) → ptI rt n i (l ++ x :: m) = some (72, i + l.length)
  | [], i, _ => by simp [ptI, hx]
  | y :: l, i, h => by
    obtain ⟨h1, h2⟩ := h y (by simp)
    have := ptI_at (n := n) (m := m) hx (l := l) (i := i + 1) fun z hz => h z (by simp [hz])
    rw [List.cons_append]
    unfold ptI
    rw [if_neg (by rw [h1]; decide), if_neg (by rw [h2]; simp), this, List.length_cons]
    congr 2
    omega
theorem ptI_ju {rt : Int × Int → Bool} {n : Nat} {x : Int × Int} {m : List (Int × Int)} (hx : rt x = true) (hj : juB x.1 = true) (hn : (n : Int) ≤ x.2) : ∀ {l : List (Int × Int)} {i : Nat}, (∀ y ∈ l, rt y = true ∧ juB y.1 = false) → ptI rt n i (l ++ x :: m) = some (73, i + l.length)
  | [], i, _ => by simp [ptI, hx, hj, hn]
  | y :: l, i, h => by
    obtain ⟨h1, h2⟩ := h y (by simp)
    have := ptI_ju (m := m) hx hj hn (l := l) (i := i + 1) fun z hz => h z (by simp [hz])
    rw [List.cons_append]
    unfold ptI
    rw [if_neg (by rw [h1]; decide), if_neg (by rw [h2]; simp), this, List.length_cons]
    congr 2
    omega
theorem pre_rt {g : Int} {nt nf : Nat} {lo ca : Int} (n : Nat) : ∀ y ∈ preL n, rtB g nt nf lo ca y = true ∧ juB y.1 = false := fun y hy => by
  obtain ⟨i, _, rfl⟩ := pre_mem hy
  exact ⟨by simp [rtB], by simp [juB]⟩
/-- the first twelve -/
theorem re_op {n : Nat} {x : Int × Int} (hx : rtB 1 1 2 2 0 x = false) : chF 1 1 (reF 0 0 (preL n ++ [x, (1, 0), (21, 0)])) = .inl (72, 0, n) := by
  have h := ptI_at (n := (preL n ++ [x, (1, 0), (21, 0)]).length) (m := [(1, 0), (21, 0)]) hx (l := preL n) (i := 0) (pre_rt n)
  rw [pre_len, Nat.zero_add] at h
  unfold chF
  rw [if_neg (by simp [reF])]
  simp only [reF, List.length_cons, List.length_nil, Nat.zero_add, ptF]
  rw [if_neg (by simp)]
  rw [h]
theorem re_ju {n : Nat} {a : Int} (ha : (n : Int) + 1 ≤ a) : chF 1 1 (reF 0 0 (preL n ++ [(14, a)])) = .inl (73, 0, n) := by
  have h := ptI_ju (rt := rtB 1 1 2 2 0) (n := (preL n ++ [(14, a)]).length) (x := (14, a)) (m := []) (by simp [rtB]) (by simp [juB]) (by rw [List.length_append, pre_len]; simpa using ha) (l := preL n) (i := 0) (pre_rt n)
  rw [pre_len, Nat.zero_add] at h
  unfold chF
  rw [if_neg (by simp [reF])]
  simp only [reF, List.length_cons, List.length_nil, Nat.zero_add, ptF]
  rw [if_neg (by simp)]
  rw [h]
set_option maxRecDepth 100000 in
theorem re_13 : ∀ n : Nat, n < 60 → chF 1 1 (reF 0 0 (preL n ++ List.replicate n (11, 0) ++ [(11, 0), (1, 0), (21, 0)])) = .inl (74, 0, 2 * n) := by decide +kernel
set_option maxRecDepth 100000 in
theorem re_14 : ∀ n : Nat, n < 60 → chF 1 1 (reF 0 0 (preL n ++ List.replicate (65 - n) (1, 0) ++ [(21, 0)])) = .inl (75, 0, 64) := by decide +kernel
set_option maxRecDepth 100000 in
theorem re_15 : ∀ n : Nat, n < 60 → chF 1 1 (reF 0 0 (preL n ++ [(1, 0), (14, (n : Int))])) = .inl (76, 0, n + 1) := by decide +kernel
set_option maxRecDepth 100000 in
theorem re_16 : ∀ n : Nat, n < 60 → chF 1 1 (reF 0 0 (preL n ++ [(1, 0)])) = .inl (77, 0, n) := by decide +kernel
theorem re_17 (l : List (Int × Int)) : chF 1 1 (reF 3 0 l) = .inl (70, 0, 0) := by simp [chF, reF]
theorem re_18 (l : List (Int × Int)) : chF 1 1 (reF 0 1 l) = .inl (70, 0, 0) := by simp [chF, reF]
theorem re_19 : chF 1 1 (reF 0 0 []) = .inl (71, 0, 0) := by simp [chF, reF, ptF]
end Go.Proofs.YthijkfcobkdihaaDoor
