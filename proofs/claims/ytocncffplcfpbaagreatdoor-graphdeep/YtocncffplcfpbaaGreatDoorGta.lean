/- graph: what lives, and how a search comes to it: plain mathematics -/
import Derived.Test.YtocncffplcfpbaaGreatDoorProg
namespace Go.Proofs.YtocncffplcfpbaaGreatDoor
set_option linter.unusedVariables false
set_option linter.unusedSimpArgs false

/-- a value: its kind and its number -/
abbrev VP := Int × Int
/-- a set that holds what the roots refer to, and with each node what it holds strongly, and what it guards once the key is there -/
def Cls (st : Int → List VP) (gd : Int → List (VP × VP)) (roots : List VP) (S : Int → Prop) : Prop :=
  (∀ v ∈ roots, v.1 = 2 → S v.2) ∧ ∀ y, S y → (∀ v ∈ st y, v.1 = 2 → S v.2) ∧ ∀ q ∈ gd y, (q.1.1 = 2 → S q.1.2) → q.2.1 = 2 → S q.2.2
/-- the least one -/
def Lv (st : Int → List VP) (gd : Int → List (VP × VP)) (roots : List VP) (y : Int) : Prop := ∀ S, Cls st gd roots S → S y
theorem lv_cls (st : Int → List VP) (gd : Int → List (VP × VP)) (roots : List VP) : Cls st gd roots (Lv st gd roots) := by
  refine ⟨fun v hv h2 S hS => hS.1 v hv h2, fun y hy => ⟨fun v hv h2 S hS => (hS.2 y (hy S hS)).1 v hv h2, fun q hq hk h2 S hS => (hS.2 y (hy S hS)).2 q hq (fun e => hk e S hS) h2⟩⟩

/-- a number is put there, unless it was there before -/
def pt (p : List Int × List Int) (x : Int) : List Int × List Int := if x ∈ p.1 then p else (p.1 ++ [x], p.2 ++ [x])
def mt (l : List VP) (p : List Int × List Int) : List Int × List Int := l.foldl (fun p v => if v.1 = 2 then pt p v.2 else p) p
theorem mt_nil (p : List Int × List Int) : mt [] p = p := rfl
theorem mt_cons (v : VP) (l : List VP) (p : List Int × List Int) : mt (v :: l) p = mt l (if v.1 = 2 then pt p v.2 else p) := rfl
theorem mt_snoc (l : List VP) (v : VP) (p : List Int × List Int) : mt (l ++ [v]) p = if v.1 = 2 then pt (mt l p) v.2 else mt l p := by
  unfold mt
  rw [List.foldl_append]
  rfl
/-- what waits for k, and one more -/
def upW (W : Int → List VP) (k : Int) (v : VP) (x : Int) : List VP := if x = k then W k ++ [v] else W x
def delW (W : Int → List VP) (k : Int) (x : Int) : List VP := if x = k then [] else W x

section
variable {st : Int → List VP} {gd : Int → List (VP × VP)} {dom : Int → Prop} {roots : List VP} {D E R M : List Int} {W : Int → List VP}
/-- D: gone through; E: the one that is looked at; R: still to come; M: met; W: what waits -/
def Inv0 (st : Int → List VP) (gd : Int → List (VP × VP)) (dom : Int → Prop) (roots : List VP) (D E R M : List Int) (W : Int → List VP) : Prop :=
  (∀ y, y ∈ M ↔ y ∈ D ∨ y ∈ E ∨ y ∈ R) ∧ (D ++ E ++ R).Nodup ∧ (∀ y ∈ M, dom y ∧ Lv st gd roots y) ∧
  (∀ y ∈ D, (∀ v ∈ st y, v.1 = 2 → v.2 ∈ M) ∧ ∀ q ∈ gd y, q.2.1 = 2 → (q.1.1 ≠ 2 → q.2.2 ∈ M) ∧ (q.1.1 = 2 → q.2.2 ∈ M ∨ (q.1.2 ∉ D ∧ q.2 ∈ W q.1.2))) ∧
  ∀ k, ∀ v ∈ W k, v.1 = 2 → dom v.2 ∧ (Lv st gd roots k → Lv st gd roots v.2)
theorem Inv0.start : Inv0 st gd dom roots [] [] [] [] (fun _ => []) :=
  ⟨by simp, by simp, by simp, by simp, by simp⟩
theorem Inv0.pt (h : Inv0 st gd dom roots D E R M W) {x : Int} (h1 : dom x) (h2 : Lv st gd roots x) : Inv0 st gd dom roots D E (pt (M, R) x).2 (pt (M, R) x).1 W ∧ x ∈ (pt (M, R) x).1 ∧ ∀ y ∈ M, y ∈ (Go.Proofs.YtocncffplcfpbaaGreatDoor.pt (M, R) x).1 := by
  unfold Go.Proofs.YtocncffplcfpbaaGreatDoor.pt
  by_cases hx : x ∈ M
  · rw [if_pos hx]
    exact ⟨h, hx, fun _ q => q⟩
  · rw [if_neg hx]
    obtain ⟨a1, a2, a3, a4, a5⟩ := h
    have hxn : x ∉ D ++ E ++ R := by
      intro q
      rw [List.mem_append, List.mem_append, or_assoc] at q
      exact hx ((a1 x).2 q)
    refine ⟨⟨fun y => ?_, ?_, ?_, ?_, a5⟩, by simp, fun y hy => by simp [hy]⟩
    · show y ∈ M ++ [x] ↔ y ∈ D ∨ y ∈ E ∨ y ∈ R ++ [x]
      rw [List.mem_append, List.mem_append, a1 y]
      constructor
      · rintro ((q | q | q) | q)
        · exact .inl q
        · exact .inr (.inl q)
        · exact .inr (.inr (.inl q))
        · exact .inr (.inr (.inr q))
      · rintro (q | q | q | q)
        · exact .inl (.inl q)
        · exact .inl (.inr (.inl q))
        · exact .inl (.inr (.inr q))
        · exact .inr q
    · show (D ++ E ++ (R ++ [x])).Nodup
      rw [← List.append_assoc]
      rw [List.nodup_append] at *
      refine ⟨?_, by simp, ?_⟩
      · exact List.nodup_append.2 a2
      · intro a ha b hb
        simp at hb
        subst hb
        rintro rfl
        exact hxn ha
    · intro y hy
      rw [List.mem_append] at hy
      rcases hy with hy | hy
      · exact a3 y hy
      · simp at hy
        subst hy
        exact ⟨h1, h2⟩
    · intro y hy
      obtain ⟨b1, b2⟩ := a4 y hy
      refine ⟨fun v hv e => List.mem_append.2 (.inl (b1 v hv e)), fun q hq e => ⟨fun e2 => List.mem_append.2 (.inl ((b2 q hq e).1 e2)), fun e2 => ?_⟩⟩
      rcases (b2 q hq e).2 e2 with c | c
      · exact .inl (List.mem_append.2 (.inl c))
      · exact .inr c
theorem Inv0.mt (h : Inv0 st gd dom roots D E R M W) {l : List VP} (hl : ∀ v ∈ l, v.1 = 2 → dom v.2 ∧ Lv st gd roots v.2) : Inv0 st gd dom roots D E (mt l (M, R)).2 (mt l (M, R)).1 W ∧ (∀ v ∈ l, v.1 = 2 → v.2 ∈ (mt l (M, R)).1) ∧ ∀ y ∈ M, y ∈ (Go.Proofs.YtocncffplcfpbaaGreatDoor.mt l (M, R)).1 := by
  induction l generalizing M R with
  | nil => exact ⟨h, by simp, fun _ q => q⟩
  | cons v l ih =>
    rw [mt_cons]
    by_cases hv : v.1 = 2
    · rw [if_pos hv]
      obtain ⟨g1, g2⟩ := hl v (by simp) hv
      obtain ⟨p1, p2, p3⟩ := h.pt g1 g2
      obtain ⟨q1, q2, q3⟩ := ih p1 (fun u hu => hl u (by simp [hu]))
      refine ⟨q1, fun u hu e => ?_, fun y hy => q3 y (p3 y hy)⟩
      rw [List.mem_cons] at hu
      rcases hu with rfl | hu
      · exact q3 _ p2
      · exact q2 u hu e
    · rw [if_neg hv]
      obtain ⟨q1, q2, q3⟩ := ih h (fun u hu => hl u (by simp [hu]))
      refine ⟨q1, fun u hu e => ?_, q3⟩
      rw [List.mem_cons] at hu
      rcases hu with rfl | hu
      · exact absurd e hv
      · exact q2 u hu e
/-- a value waits for the number of a key that was not met -/
theorem Inv0.wait (h : Inv0 st gd dom roots D E R M W) {k : Int} {v : VP} (hv : v.1 = 2 → dom v.2 ∧ (Lv st gd roots k → Lv st gd roots v.2)) : Inv0 st gd dom roots D E R M (upW W k v) := by
  obtain ⟨a1, a2, a3, a4, a5⟩ := h
  refine ⟨a1, a2, a3, fun y hy => ⟨(a4 y hy).1, fun q hq e => ⟨((a4 y hy).2 q hq e).1, fun e2 => ?_⟩⟩, fun x u hu e => ?_⟩
  · rcases ((a4 y hy).2 q hq e).2 e2 with c | ⟨c, d⟩
    · exact .inl c
    · refine .inr ⟨c, ?_⟩
      unfold upW
      split
      · rename_i h1; rw [h1] at d; exact List.mem_append.2 (.inl d)
      · exact d
  · unfold upW at hu
    split at hu
    · rename_i h1
      rw [h1]
      rw [List.mem_append] at hu
      rcases hu with hu | hu
      · exact a5 k u hu e
      · simp at hu
        subst hu
        exact hv e
    · exact a5 x u hu e
/-- the next one is taken -/
theorem Inv0.take {x : Int} (h : Inv0 st gd dom roots D [] (R ++ [x]) M W) : Inv0 st gd dom roots D [x] R M W := by
  obtain ⟨a1, a2, a3, a4, a5⟩ := h
  refine ⟨fun y => ?_, ?_, a3, a4, a5⟩
  · rw [a1 y]
    simp only [List.mem_append, List.not_mem_nil, false_or, List.mem_singleton]
    constructor
    · rintro (q | q | q)
      · exact .inl q
      · exact .inr (.inr q)
      · exact .inr (.inl q)
    · rintro (q | q | q)
      · exact .inl q
      · exact .inr (.inr q)
      · exact .inr (.inl q)
  · rw [List.append_nil] at a2
    refine a2.perm ?_
    rw [List.append_assoc]
    exact List.Perm.append_left D List.perm_append_comm
/-- the one that was looked at is done -/
theorem Inv0.done {x : Int} (h : Inv0 st gd dom roots D [x] R M W) (h1 : ∀ v ∈ st x, v.1 = 2 → v.2 ∈ M) (h2 : ∀ q ∈ gd x, q.2.1 = 2 → (q.1.1 ≠ 2 → q.2.2 ∈ M) ∧ (q.1.1 = 2 → q.2.2 ∈ M ∨ (q.1.2 ∉ D ∧ q.1.2 ≠ x ∧ q.2 ∈ W q.1.2))) (h3 : ∀ v ∈ W x, v.1 = 2 → v.2 ∈ M) : Inv0 st gd dom roots (D ++ [x]) [] R M (delW W x) := by
  obtain ⟨a1, a2, a3, a4, a5⟩ := h
  have key : ∀ q : VP × VP, q.2.1 = 2 → q.1.2 ∉ D → q.2 ∈ W q.1.2 → q.2.2 ∈ M ∨ (q.1.2 ∉ D ++ [x] ∧ q.2 ∈ delW W x q.1.2) := by
    intro q e c d
    by_cases hx : q.1.2 = x
    · rw [hx] at d
      exact .inl (h3 _ d e)
    · refine .inr ⟨by rw [List.mem_append]; rintro (w | w); exact c w; simp at w; exact hx w, ?_⟩
      unfold delW
      rw [if_neg hx]
      exact d
  refine ⟨fun y => ?_, by simpa using a2, a3, fun y hy => ?_, fun k v hv e => ?_⟩
  · rw [a1 y, List.mem_append, or_assoc]
    simp only [List.not_mem_nil, false_or]
  · rw [List.mem_append] at hy
    rcases hy with hy | hy
    · refine ⟨(a4 y hy).1, fun q hq e => ⟨((a4 y hy).2 q hq e).1, fun e2 => ?_⟩⟩
      rcases ((a4 y hy).2 q hq e).2 e2 with c | ⟨c, d⟩
      · exact .inl c
      · exact key q e c d
    · simp at hy
      subst hy
      refine ⟨h1, fun q hq e => ⟨(h2 q hq e).1, fun e2 => ?_⟩⟩
      rcases (h2 q hq e).2 e2 with c | ⟨c, _, d⟩
      · exact .inl c
      · exact key q e c d
  · unfold delW at hv
    split at hv
    · simp at hv
    · exact a5 k v hv e
/-- at the end what was met is what lives -/
theorem Inv0.ends (h : Inv0 st gd dom roots D [] [] M W) (hr : ∀ v ∈ roots, v.1 = 2 → v.2 ∈ M) (y : Int) : y ∈ M ↔ Lv st gd roots y := by
  obtain ⟨a1, a2, a3, a4, a5⟩ := h
  refine ⟨fun q => (a3 y q).2, fun q => ?_⟩
  have hD : ∀ y, y ∈ M ↔ y ∈ D := fun y => by rw [a1 y]; simp
  refine q (fun y => y ∈ M) ⟨hr, fun y hy => ⟨fun v hv e => (a4 y ((hD y).1 hy)).1 v hv e, fun q hq hk e => ?_⟩⟩
  obtain ⟨b1, b2⟩ := (a4 y ((hD y).1 hy)).2 q hq e
  by_cases h2 : q.1.1 = 2
  · rcases b2 h2 with c | ⟨c, _⟩
    · exact c
    · exact absurd ((hD _).1 (hk h2)) c
  · exact b1 h2
theorem nodup_le : ∀ (n : Nat) (l : List Int), l.Nodup → (∀ y ∈ l, 1 ≤ y ∧ y ≤ n) → l.length ≤ n
  | 0, l, _, h => by
    cases l with
    | nil => simp
    | cons a l => have := h a (by simp); omega
  | n + 1, l, hn, h => by
    by_cases hm : ((n + 1 : Nat) : Int) ∈ l
    · have h1 := nodup_le n (l.erase ((n + 1 : Nat) : Int)) (hn.erase _) (fun y hy => by
        obtain ⟨q1, q2⟩ := (hn.mem_erase_iff).1 hy
        have := h y q2
        omega)
      rw [List.length_erase_of_mem hm] at h1
      omega
    · have h1 := nodup_le n l hn (fun y hy => by
        have := h y hy
        have : y ≠ ((n + 1 : Nat) : Int) := fun e => hm (e ▸ hy)
        omega)
      omega
theorem Inv0.less {x : Int} {n : Nat} (h : Inv0 st gd dom roots D [x] R M W) (hd : ∀ y, dom y → 1 ≤ y ∧ y ≤ n) : D.length < n := by
  obtain ⟨a1, a2, a3, _⟩ := h
  have := nodup_le n (D ++ [x] ++ R) a2 (fun y hy => hd y (a3 y ((a1 y).2 (by rw [List.mem_append, List.mem_append, or_assoc] at hy; exact hy))).1)
  simp at this
  omega
end
end Go.Proofs.YtocncffplcfpbaaGreatDoor
