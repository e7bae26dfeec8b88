import Derived.Test.YtjbbkeoolodeaabGreatDoorA16
namespace Go.Proofs.YtjbbkeoolodeaabGreatDoor
open Go.RowKit
set_option linter.unusedVariables false
set_option maxRecDepth 100000
set_option maxHeartbeats 16000000
set_option linter.unusedSimpArgs false
def z3t (S : Nat → Int × Int × Int) (P : Nat → Bool) (p : Nat) : Bool := (S p).1 == 1 && z6o P (64 * p) (64 * p + 64) == 0
def z6g (S : Nat → Int × Int × Int) (P : Nat → Bool) (c p : Nat) : Bool := (S p).1 == 1 && ((S p).2.1 == (c : Int) && !(z6o P (64 * p) (64 * p + 64) == 0))
def dlS (S : Nat → Int × Int × Int) (P : Nat → Bool) (i : Nat) : Nat → Int × Int × Int := fun p => if decide (p < i) && z3t S P p then (0, 0, 0) else S p
def dlF (S : Nat → Int × Int × Int) (P : Nat → Bool) (F : Nat → Nat → Bool) (i : Nat) : Nat → Nat → Bool := fun c j => F c j || (decide (j / 64 < i) && z6g S P c (j / 64) && K7 (c : Int) (j % 64) && !P j)
theorem z2z (p i : Nat) : decide (p < i + 1) = (decide (p < i) || decide (p = i)) := by
 by_cases h : p < i
 ·simp [h]; omega
 ·by_cases e : p = i
  ·simp [e]
  ·simp [h, e]; omega
theorem q2t {n : Nat} {q : Raw} (hg : Good n q.S) : ∀ i, i ≤ n → dlR n q.S q i = { q with S := dlS q.S q.P i, F := dlF q.S q.P q.F i }
 | 0, _ => by
  refine Raw.eq rfl ?_ ?_ rfl rfl rfl rfl
  ·funext p; show q.S p = dlS q.S q.P 0 p; unfold dlS; simp
  ·funext c j; show q.F c j = dlF q.S q.P q.F 0 c j; unfold dlF; simp
 | i + 1, hi => by
  show z8a n q.S (dlR n q.S q i) i = _
  rw [q2t hg i (by omega)]; unfold z8a; dsimp only; have hSi : dlS q.S q.P i i = q.S i := by unfold dlS; simp
  have hSn : ∀ (hb : z3t q.S q.P i = false), dlS q.S q.P (i + 1) = dlS q.S q.P i := fun hb => by
   funext p
   unfold dlS; rw [z2z]; by_cases e : p = i
   ·subst e; simp [hb]
   ·simp [e]
  have hFn : ∀ (hb : ∀ c, z6g q.S q.P c i = false), dlF q.S q.P q.F (i + 1) = dlF q.S q.P q.F i := fun hb => by
   funext c j
   unfold dlF; rw [z2z]; by_cases e : j / 64 = i
   ·rw [e, hb c]; simp
   ·simp [e]
  by_cases h1 : (q.S i).1 = 1
  ·rw [if_pos h1]; obtain ⟨c, hc, hS⟩ : ∃ c : Nat, c < 8 ∧ q.S i = (1, (c : Int), 0) := by
    rcases hg.cases (i := i) (by omega) with e | ⟨c, c1, c2, e⟩ | ⟨k, _, _, _, e⟩ | e
    ·rw [e] at h1; simp at h1
    ·exact ⟨c.toNat, by omega, by rw [e]; simp; omega⟩
    ·rw [e] at h1; simp at h1
    ·rw [e] at h1; simp at h1
   cases h2 : (z6o q.P (64 * i) (64 * i + 64) == 0) with
   | true =>
    rw [if_pos rfl]; refine Raw.eq rfl ?_ ?_ rfl rfl rfl rfl
    ·show gvS (dlS q.S q.P i) n (i : Int) = dlS q.S q.P (i + 1)
     unfold gvS z4n; rw [show ((i : Int)).toNat = i from by omega, hSi, hS, if_pos (by unfold inB; simp; omega)]; funext p
     show (if i ≤ p ∧ p < i + z4t (1, (c : Int), 0) then (0, 0, 0) else dlS q.S q.P i p) = _
     rw [show z4t (1, (c : Int), 0) = 1 from rfl]; by_cases e : p = i
     ·subst e; rw [if_pos (by omega)]; unfold dlS z3t; rw [hS, h2]; simp
     ·rw [if_neg (by omega)]; unfold dlS; rw [z2z]; simp [e]
    ·show dlF q.S q.P q.F i = dlF q.S q.P q.F (i + 1)
     exact (hFn fun c => by unfold z6g; rw [h2]; simp).symm
   | false =>
    rw [if_neg (by simp)]; refine Raw.eq rfl ?_ ?_ rfl rfl rfl rfl
    ·show dlS q.S q.P i = dlS q.S q.P (i + 1)
     exact (hSn (by unfold z3t; rw [h2]; simp)).symm
    ·show (fun d => if d = (q.S i).2.1.toNat then fuR { q with S := dlS q.S q.P i, F := dlF q.S q.P q.F i } (q.S i).2.1.toNat i else dlF q.S q.P q.F i d) = dlF q.S q.P q.F (i + 1)
     rw [hS]; funext d j
     show (if d = ((c : Int)).toNat then fuR { q with S := dlS q.S q.P i, F := dlF q.S q.P q.F i } ((c : Int)).toNat i else dlF q.S q.P q.F i d) j = dlF q.S q.P q.F (i + 1) d j
     rw [show ((c : Int)).toNat = c from by omega]; by_cases e : d = c
     ·subst e; rw [if_pos rfl]
      show (dlF q.S q.P q.F i d j || (decide (j / 64 = i) && K7 (d : Int) (j % 64) && !q.P j)) = _
      unfold dlF; rw [z2z]; by_cases ej : j / 64 = i
      ·have hf : z6g q.S q.P d i = true := by unfold z6g; rw [hS, h2]; simp
       rw [ej, hf]; simp
      ·simp [ej]
     ·rw [if_neg e]; unfold dlF; rw [z2z]; by_cases ej : j / 64 = i
      ·have hf : z6g q.S q.P d i = false := by unfold z6g; rw [hS]; simp; omega
       rw [ej, hf]; simp
      ·simp [ej]
  ·rw [if_neg h1]; refine Raw.eq rfl ?_ ?_ rfl rfl rfl rfl
   ·exact (hSn (by unfold z3t; simp [h1])).symm
   ·exact (hFn fun c => by unfold z6g; simp [h1]).symm
def q3o (n : Nat) (st : Sp) : Nat → Sp
 | 0 => st
 | c + 1 => { q3o n st c with W := z7b n (Z6 n (q3o n st c)) c }
theorem j6p (n : Nat) (st : Sp) : ∀ c, lnR n (Z6 n st) c = Z6 n (q3o n st c)
 | 0 => rfl
 | c + 1 => by
  show { lnR n (Z6 n st) c with W := z7b n (lnR n (Z6 n st) c) c } = Z6 n { q3o n st c with W := z7b n (Z6 n (q3o n st c)) c }
  rw [j6p n st c]; rfl
theorem z4b (n : Nat) (st : Sp) : ∀ c, (q3o n st c).S = st.S ∧ (q3o n st c).O = st.O ∧ (q3o n st c).last = st.last
 | 0 => ⟨rfl, rfl, rfl⟩
 | c + 1 => z4b n st c
def kpO (st : Sp) (kp : Nat → Bool) : Nat → Blk := fun a => if kp a then st.O a else noB
def z6d (n : Nat) (st : Sp) (kp : Nat → Bool) : Nat → Int × Int × Int := fun q => if z1f (Z6 n st) kp (64 * n) q = true then (0, 0, 0) else st.S q
theorem j1o : Q7 noB = false := rfl
theorem z2y (st : Sp) (kp : Nat → Bool) (a : Nat) : Q7 (kpO st kp a) = (Q7 (st.O a) && kp a) := by
 unfold kpO; cases kp a with
 | true => simp
 | false => simp [j1o]
theorem kp_P {n : Nat} {st : Sp} {kp : Nat → Bool} : (Q6 n (Z6 n st) kp (64 * n)).P = ob n { st with O := kpO st kp } := by
 funext a
 rw [(U6 (n := n) (kp := kp) (B7 st) (64 * n) a).1]
 show (ob n st a && _) = (decide (a < 64 * n) && Q7 (kpO st kp a))
 rw [z2y]; unfold ob; by_cases h : a < 64 * n
 ·simp [h]
 ·simp [h]
theorem kp_M {n : Nat} {st : Sp} {kp : Nat → Bool} (hI : Inv n st) : (Q6 n (Z6 n st) kp (64 * n)).M = obM { st with O := kpO st kp } := by
 funext i
 rw [j6m (n := n) (kp := kp) (B7 st)]
 show (if _ then none else obM st i) = (if 0 ≤ i ∧ Q7 (kpO st kp i.toNat) = true then some (kpO st kp i.toNat) else none)
 unfold z1l; rw [z2y]
 show (if 0 ≤ i ∧ i.toNat < 64 * n ∧ (ob n st i.toNat && !kp i.toNat) = true then none else obM st i) = _
 unfold ob obM; by_cases h0 : 0 ≤ i
 ·cases hh : Q7 (st.O i.toNat) with
  | false => simp [h0, hh]
  | true =>
   have hlt := (hI.objs _ hh).1; cases hk : kp i.toNat with
   | true => simp [h0, hh, hk, kpO]
   | false => simp [h0, hh, hk, hlt]
 ·simp [h0]
theorem z4j {n : Nat} {st : Sp} {x : Int} {a : Nat} (hx : 1 ≤ x) (h : q2e n st x = some a) : a < 64 * n ∧ Q7 (st.O a) = true ∧ (st.O a).2.2.1 = x := by
 unfold q2e at h; rw [if_pos hx] at h; have h1 := List.find?_some h; have h2 := List.mem_of_find?_eq_some h; rw [List.mem_range] at h2; rw [Bool.and_eq_true] at h1; exact ⟨h2, h1.1, by simpa using h1.2⟩
theorem q1e {n : Nat} {st : Sp} {x : Int} (hx : 1 ≤ x) (h : q2e n st x = none) : ∀ a, a < 64 * n → Q7 (st.O a) = true → (st.O a).2.2.1 ≠ x := by
 intro a ha hh he; unfold q2e at h; rw [if_pos hx, List.find?_eq_none] at h; have := h a (by rw [List.mem_range]; exact ha); rw [hh, he] at this; simp at this
theorem kp_R {n : Nat} {st : Sp} {kp : Nat → Bool} (hI : Inv n st) : (Q6 n (Z6 n st) kp (64 * n)).R = q2m n { st with O := kpO st kp } := by
 funext x
 rw [j7b (n := n) (kp := kp) (B7 st)]
 show (if q1a (Z6 n st) kp (64 * n) x = true then none else q2m n st x) = q2m n { st with O := kpO st kp } x
 unfold q2m; by_cases hx : 1 ≤ x
 ·have hgone : q1a (Z6 n st) kp (64 * n) x = true ↔ ∃ a, a < 64 * n ∧ Q7 (st.O a) = true ∧ kp a = false ∧ (st.O a).2.2.1 = x := by
   unfold q1a; rw [List.any_eq_true]; constructor
   ·rintro ⟨a, ha, h⟩; rw [List.mem_range] at ha; rw [Bool.and_eq_true] at h; have hg : (ob n st a && !kp a) = true := h.1; cases e : (Z6 n st).M (a : Int) with
    | none => rw [e] at h; exact absurd h.2 (by simp)
    | some b =>
     rw [e] at h; obtain ⟨rfl, hh⟩ := z3q e; refine ⟨a, ha, hh, ?_, by simpa using h.2⟩; rw [Bool.and_eq_true] at hg; simpa using hg.2
   ·rintro ⟨a, ha, hh, hk, hs⟩; refine ⟨a, by rw [List.mem_range]; exact ha, ?_⟩; have hP : (Z6 n st).P a = true := by show ob n st a = true; unfold ob; simp [ha, hh]
    obtain ⟨b, hb⟩ := B7 st a hP; obtain ⟨rfl, _⟩ := z3q hb; rw [hb]; unfold z1l; rw [hP, hk]; simp [hs]
  cases h1 : q2e n st x with
  | none =>
   have hn := q1e hx h1; rw [if_neg (fun h => by obtain ⟨a, a1, a2, _, a3⟩ := hgone.1 h; exact hn a a1 a2 a3)]; cases h2 : q2e n { st with O := kpO st kp } x with
   | none => rfl
   | some a =>
    obtain ⟨a1, a2, a3⟩ := z4j hx h2; have a2' : Q7 (kpO st kp a) = true := a2; have a3' : (kpO st kp a).2.2.1 = x := a3; rw [z2y, Bool.and_eq_true] at a2'; unfold kpO at a3'; rw [if_pos a2'.2] at a3'; exact absurd a3' (hn a a1 a2'.1)
  | some a =>
   obtain ⟨a1, a2, a3⟩ := z4j hx h1; cases hk : kp a with
   | true =>
    rw [if_neg ?_]
    ·cases h2 : q2e n { st with O := kpO st kp } x with
     | none =>
      have := q1e hx h2 a a1 (by show Q7 (kpO st kp a) = true; rw [z2y, a2, hk]; rfl); exact absurd (show (kpO st kp a).2.2.1 = x by unfold kpO; rw [if_pos hk]; exact a3) this
     | some a' =>
      obtain ⟨b1, b2, b3⟩ := z4j hx h2; have b2' : Q7 (kpO st kp a') = true := b2; have b3' : (kpO st kp a').2.2.1 = x := b3; rw [z2y, Bool.and_eq_true] at b2'; unfold kpO at b3'; rw [if_pos b2'.2] at b3'; have : a = a' := hI.one a a' a2 b2'.1 (by omega) (by omega); subst this; rfl
    ·intro h; obtain ⟨a', c1, c2, c3, c4⟩ := hgone.1 h; have : a = a' := hI.one a a' a2 c2 (by omega) (by omega); subst this; rw [hk] at c3; cases c3
   | false =>
    rw [if_pos (hgone.2 ⟨a, a1, a2, hk, a3⟩)]; cases h2 : q2e n { st with O := kpO st kp } x with
    | none => rfl
    | some a' =>
     obtain ⟨b1, b2, b3⟩ := z4j hx h2; have b2' : Q7 (kpO st kp a') = true := b2; have b3' : (kpO st kp a').2.2.1 = x := b3; rw [z2y, Bool.and_eq_true] at b2'; unfold kpO at b3'; rw [if_pos b2'.2] at b3'; have : a = a' := hI.one a a' a2 b2'.1 (by omega) (by omega); subst this; rw [hk] at b2'; cases b2'.2
 ·have e1 : q2e n st x = none := by unfold q2e; rw [if_neg hx]
  have e2 : q2e n { st with O := kpO st kp } x = none := by unfold q2e; rw [if_neg hx]
  rw [e1, e2]; simp
theorem q3f {n : Nat} {st : Sp} {kp : Nat → Bool} (hI : Inv n st) {q : Nat} (h : z1f (Z6 n st) kp (64 * n) q = true) : ∃ p k : Nat, p < n ∧ st.S p = (2, 0, (k : Int)) ∧ p ≤ q ∧ q < p + k ∧ ∀ j, p ≤ j → j < p + k → z1f (Z6 n st) kp (64 * n) j = true := by
 obtain ⟨a, b, g1, g2, g3, g4, g5, g6⟩ := goneP_iff.1 h; obtain ⟨rfl, gh⟩ := z3q g3; obtain ⟨_, _, i3⟩ := hI.objs a gh; rcases i3 with ⟨i3, _⟩ | ⟨_, i4, i5⟩
 ·omega
 ·refine ⟨a / 64, (((st.O a).2.1 + 63) / 64).toNat, by omega, by rw [i5]; simp; omega, g5, g6, fun j j1 j2 => goneP_iff.2 ⟨a, _, g1, g2, g3, g4, j1, j2⟩⟩
theorem j2j {n : Nat} {st : Sp} {kp : Nat → Bool} (hI : Inv n st) : Good n (z6d n st kp) := by
 intro i hi; unfold PgOk z6d; cases hg : z1f (Z6 n st) kp (64 * n) i with
 | true => exact .inl (by rw [if_pos rfl])
 | false =>
  simp only [Bool.false_eq_true, if_false]; rcases hI.good i hi with e | ⟨c, c1, c2, e⟩ | ⟨k, k1, k2, k3, e, k4⟩ | ⟨e, h, k, h1, h2, h3⟩
  ·exact .inl e
  ·exact .inr (.inl ⟨c, c1, c2, e⟩)
  ·refine .inr (.inr (.inl ⟨k, k1, k2, k3, e, fun j j1 j2 => ?_⟩)); cases hj : z1f (Z6 n st) kp (64 * n) j with
   | false => rw [if_neg (by simp)]; exact k4 j j1 j2
   | true =>
    obtain ⟨p, m, p1, p2, p3, p4, p5⟩ := q3f hI hj; by_cases ep : p ≤ i
    ·have := p5 i ep (by omega); rw [hg] at this; cases this
    ·have := k4 p (by omega) (by omega); rw [p2] at this; simp at this
  ·refine .inr (.inr (.inr ⟨e, h, k, h1, h2, ?_⟩)); cases hj : z1f (Z6 n st) kp (64 * n) h with
   | false => rw [if_neg (by simp)]; exact h3
   | true =>
    obtain ⟨p, m, p1, p2, p3, p4, p5⟩ := q3f hI hj; by_cases ep : p = h
    ·subst ep; rw [h3] at p2; have : k = m := by simp at p2; omega
     subst this; have := p5 i (by omega) (by omega); rw [hg] at this; cases this
    ·rcases hI.good p p1 with e2 | ⟨c, _, _, e2⟩ | ⟨k', _, _, _, e2, q4⟩ | ⟨e2, _⟩
     ·rw [p2] at e2; simp at e2
     ·rw [p2] at e2; simp at e2
     ·rw [p2] at e2; have : m = k' := by simp at e2; omega
      subst this; have := q4 h (by omega) p4; rw [h3] at this; simp at this
     ·rw [p2] at e2; simp at e2
def q5h (n : Nat) (st : Sp) (kp : Nat → Bool) : Sp :=
 { W := wpW (Q6 n (Z6 n st) kp (64 * n)) (64 * n), S := dlS (z6d n st kp) (ob n { st with O := kpO st kp }) n, O := kpO st kp, last := st.last }
def G2 (n : Nat) (st : Sp) (l : List Int) : Sp := q3o n (q5h n st (kpS l)) 8
theorem q4q {n : Nat} {r : Raw} {kp : Nat → Bool} (hT : z8q r) : ∀ p, (Q6 n r kp p).F = r.F ∧ (Q6 n r kp p).last = r.last
 | 0 => ⟨rfl, rfl⟩
 | p + 1 => by
  have ih := q4q (n := n) (kp := kp) hT p; rw [z2d]; cases e : (r.P p && !kp p) with
  | false => rw [if_neg (by simp)]; exact ih
  | true =>
   rw [if_pos rfl]; obtain ⟨b, hb⟩ := hT p (by rw [Bool.and_eq_true] at e; exact e.1); rw [hb]; exact ih
theorem j5j {n : Nat} {st : Sp} {l : List Int} (hI : Inv n st) : j9c n (Z6 n st) l = Z6 n (G2 n st l) := by
 unfold j9c j7m G2; rw [← j6p]; congr 1
 obtain ⟨q, hq⟩ : ∃ q, Q6 n (Z6 n st) (kpS l) (64 * n) = q := ⟨_, rfl⟩
 have hS : q.S = z6d n st (kpS l) := by rw [← hq]; funext p; exact j7a hI (64 * n) p
 have hP : q.P = ob n { st with O := kpO st (kpS l) } := by rw [← hq]; exact kp_P
 have hM : q.M = obM { st with O := kpO st (kpS l) } := by rw [← hq]; exact kp_M hI
 have hR : q.R = q2m n { st with O := kpO st (kpS l) } := by rw [← hq]; exact kp_R hI
 have hF : q.F = (Z6 n st).F := by rw [← hq]; exact (q4q (B7 st) _).1
 have hL : q.last = st.last := by rw [← hq]; exact (q4q (B7 st) _).2
 have hg : Good n q.S := by rw [hS]; exact j2j hI
 rw [hq]; have hcl := q2t (n := n) (q := rsF { q with W := wpW q (64 * n) } 8) hg n (Nat.le_refl _); refine hcl.trans (Raw.eq ?_ ?_ ?_ ?_ ?_ ?_ ?_)
 ·show wpW q (64 * n) = wpW (Q6 n (Z6 n st) (kpS l) (64 * n)) (64 * n)
  rw [hq]
 ·show dlS q.S q.P n = dlS (z6d n st (kpS l)) (ob n { st with O := kpO st (kpS l) }) n
  rw [hS, hP]
 ·funext c j
  show dlF q.S q.P (fun d => if d < 8 then (fun _ => false) else q.F d) n c j = fr n (q5h n st (kpS l)) (c : Int) j
  have hF0 : (if c < 8 then (fun _ => false) else q.F c) j = false := by
   by_cases hc : c < 8
   ·rw [if_pos hc]
   ·rw [if_neg hc, hF]
    show fr n st (c : Int) j = false
    unfold fr; by_cases hj : j < 64 * n
    ·have : (st.S (j / 64) == (1, (c : Int), 0)) = false := by
      rcases hI.good.cases (i := j / 64) (by omega) with e | ⟨d, d1, d2, e⟩ | ⟨k, _, _, _, e⟩ | e <;> rw [e] <;> simp
      omega
     rw [this]; simp
    ·simp [hj]
  unfold dlF fr
  show ((if c < 8 then (fun _ => false) else q.F c) j || (decide (j / 64 < n) && z6g q.S q.P c (j / 64) && K7 (c : Int) (j % 64) && !q.P j)) = _
  rw [hF0, Bool.false_or]
  show (decide (j / 64 < n) && z6g q.S q.P c (j / 64) && K7 (c : Int) (j % 64) && !q.P j) = (decide (j < 64 * n) && (dlS (z6d n st (kpS l)) (ob n { st with O := kpO st (kpS l) }) n (j / 64) == (1, (c : Int), 0)) && K7 (c : Int) (j % 64) && !Q7 (kpO st (kpS l) j))
  rw [← hS, ← hP]; by_cases hj : j < 64 * n
  ·have hPj : q.P j = Q7 (kpO st (kpS l) j) := by rw [hP]; show (decide (j < 64 * n) && Q7 (kpO st (kpS l) j)) = _; simp [hj]
   rw [hPj]; have : z6g q.S q.P c (j / 64) = (dlS q.S q.P n (j / 64) == (1, (c : Int), 0)) := by
    unfold z6g dlS z3t; have hj' : j / 64 < n := by omega
    rcases hg.cases (i := j / 64) hj' with e | ⟨d, d1, d2, e⟩ | ⟨k, _, _, _, e⟩ | e
    ·rw [e]; simp
    ·rw [e]; cases hcn : (z6o q.P (64 * (j / 64)) (64 * (j / 64) + 64) == 0) with
     | true => simp [hj']
     | false =>
      simp [hj']; rw [Bool.eq_iff_iff]; simp
    ·rw [e]; simp
    ·rw [e]; simp
   rw [this]; simp [hj, show j / 64 < n from by omega]
  ·simp [hj, show ¬ j / 64 < n from by omega]
 ·exact hP
 ·exact hM
 ·exact hR
 ·exact hL
theorem j0v {S : Nat → Bool} {a : Nat} (hS : S a = true) (b : Nat) (h : a < b) : cnt S b ≠ 0 := fun h0 => by
 have := q6j h0 a h; rw [hS] at this; cases this
theorem z4k {S : Nat → Int × Int × Int} {P : Nat → Bool} {m p : Nat} (h : (S p).1 ≠ 1) : dlS S P m p = S p := by
 unfold dlS z3t; simp [h]
theorem j3f {n m : Nat} {S : Nat → Int × Int × Int} {P : Nat → Bool} (hg : Good n S) : Good n (dlS S P m) := by
 intro i hi; unfold PgOk; rcases hg i hi with e | ⟨c, c1, c2, e⟩ | ⟨k, k1, k2, k3, e, k4⟩ | ⟨e, h, k, h1, h2, h3⟩
 ·exact .inl (by rw [z4k (by rw [e]; simp), e])
 ·unfold dlS; cases hb : (decide (i < m) && z3t S P i) with
  | true => exact .inl (by simp)
  | false => exact .inr (.inl ⟨c, c1, c2, by simp [e]⟩)
 ·refine .inr (.inr (.inl ⟨k, k1, k2, k3, by rw [z4k (by rw [e]; simp), e], fun j j1 j2 => ?_⟩)); have := k4 j j1 j2; rw [z4k (by rw [this]; simp), this]
 ·exact .inr (.inr (.inr ⟨by rw [z4k (by rw [e]; simp), e], h, k, h1, h2, by rw [z4k (by rw [h3]; simp), h3]⟩))
theorem q7d {n : Nat} {st : Sp} {l : List Int} (hI : Inv n st) : Inv n (G2 n st l) := by
 obtain ⟨kp, hkp⟩ : ∃ kp, kpS l = kp := ⟨_, rfl⟩
 obtain ⟨e1, e2, e3⟩ := z4b n (q5h n st (kpS l)) 8; have hS : (G2 n st l).S = dlS (z6d n st kp) (ob n { st with O := kpO st kp }) n := by rw [← hkp]; exact e1
 have hO : (G2 n st l).O = kpO st kp := by rw [← hkp]; exact e2
 have hL : (G2 n st l).last = st.last := e3; have hg := j2j (kp := kp) hI; have hk : ∀ a, Q7 (kpO st kp a) = true → Q7 (st.O a) = true ∧ kp a = true ∧ kpO st kp a = st.O a := fun a h => by
  rw [z2y, Bool.and_eq_true] at h; exact ⟨h.1, h.2, by unfold kpO; rw [if_pos h.2]⟩
 -- the page of a kept object is as it was
 have hpg : ∀ a, Q7 (kpO st kp a) = true → a < 64 * n → dlS (z6d n st kp) (ob n { st with O := kpO st kp }) n (a / 64) = st.S (a / 64) := fun a h ha => by
  obtain ⟨h1, h2, h3⟩ := hk a h; have hng : z1f (Z6 n st) kp (64 * n) (a / 64) = false := by
   cases eg : z1f (Z6 n st) kp (64 * n) (a / 64) with
   | false => rfl
   | true =>
    obtain ⟨a', b, g1, g2, g3, g4, g5, g6⟩ := goneP_iff.1 eg; obtain ⟨rfl, gh⟩ := z3q g3; have gk : kp a' = false := by unfold z1l at g2; rw [Bool.and_eq_true] at g2; simpa using g2.2
    have gP : (Z6 n st).P a' = true := by unfold z1l at g2; rw [Bool.and_eq_true] at g2; exact g2.1
    have aP : (Z6 n st).P a = true := by show ob n st a = true; unfold ob; simp [ha, h1]
    obtain ⟨_, _, i3⟩ := hI.objs a' gh; rcases i3 with ⟨i3, _⟩ | ⟨_, i4, i5⟩
    ·omega
    have hr : J3 (st.O a').2.1 = (((st.O a').2.1 + 63) / 64).toNat * 64 := by unfold J3; rw [if_pos g4]
    by_cases hlt : a' < a
    ·have := (z3i hI a' _ gP g3).2.2.2 a hlt aP; omega
    ·by_cases he : a' = a
     ·subst he; rw [h2] at gk; cases gk
     ·omega
  unfold dlS z6d; rw [hng]; have hc : z6o (ob n { st with O := kpO st kp }) (64 * (a / 64)) (64 * (a / 64) + 64) ≠ 0 := by
   unfold z6o; refine j0v (a := a) ?_ _ (by omega)
   show (decide (64 * (a / 64) ≤ a) && (decide (a < 64 * n) && Q7 (kpO st kp a))) = true
   rw [h]; simp; omega
  have hb : z3t (fun q => if z1f (Z6 n st) kp (64 * n) q = true then (0, 0, 0) else st.S q) (ob n { st with O := kpO st kp }) (a / 64) = false := by
   unfold z3t; simp [hc]
  rw [hb]; simp
 refine ⟨hI.n1, hI.n2, ?_, ?_, ?_, ?_, ?_, ?_, ?_⟩
 ·rw [hS]; exact j3f hg
 ·rw [hO, hS]; intro a h; obtain ⟨h1, h2, h3⟩ := hk a h; have ho := hI.objs a h1; rw [h3]; refine ⟨ho.1, ho.2.1, ?_⟩; rw [hpg a h ho.1]; exact ho.2.2
 ·rw [hO]; intro a h; unfold kpO at *; cases hka : kp a with
  | true => rw [hka] at h; exact hI.none a h
  | false => rfl
 ·rw [hO, hS]; intro p hp h; have h2 : (z6d n st kp p).1 = 2 := by
   unfold dlS at h; cases hb : (decide (p < n) && z3t (z6d n st kp) (ob n { st with O := kpO st kp }) p) with
   | true => rw [hb] at h; simp at h
   | false => rw [hb] at h; simpa using h
  cases hgp : z1f (Z6 n st) kp (64 * n) p with
  | true => unfold z6d at h2; rw [hgp] at h2; simp at h2
  | false =>
   have h3 : (st.S p).1 = 2 := by unfold z6d at h2; rw [hgp] at h2; simpa using h2
   have hh := hI.heads p hp h3; rw [z2y, hh]; cases hka : kp (64 * p) with
   | true => rfl
   | false =>
    exfalso
    have hP : (Z6 n st).P (64 * p) = true := by show ob n st (64 * p) = true; unfold ob; simp [hh]; omega
    obtain ⟨b, hb⟩ := B7 st (64 * p) hP; obtain ⟨rfl, _⟩ := z3q hb; obtain ⟨_, _, i3⟩ := hI.objs (64 * p) hh; rw [show 64 * p / 64 = p from by omega] at i3; rcases i3 with ⟨_, i4, _⟩ | ⟨i4, _, i5⟩
    ·rw [i4] at h3; simp at h3
    ·have := (goneP_iff (r := Z6 n st) (kp := kp) (p := 64 * n) (q := p)).2 ⟨64 * p, _, (by omega : 64 * p < 64 * n), (by unfold z1l; rw [hP, hka]; rfl), hb, i4, (by omega : 64 * p / 64 ≤ p), (by omega : p < 64 * p / 64 + (((st.O (64 * p)).2.1 + 63) / 64).toNat)⟩; rw [hgp] at this; cases this
 ·rw [hL]; exact hI.last0
 ·rw [hO, hL]; intro a h; obtain ⟨h1, h2, h3⟩ := hk a h; rw [h3]; exact hI.ser a h1
 ·rw [hO]; intro a b ha hb; obtain ⟨h1, h2, h3⟩ := hk a ha; obtain ⟨g1, g2, g3⟩ := hk b hb; rw [h3, g3]; exact hI.one a b h1 g1
theorem q8i {w : World} {lo hi n cap : Nat} {s : Nat → Nat} {st : Sp} (h : SpAt w lo hi s n cap st) {l : List Int} {p : Option Addr} {cp : Nat} (hl : z5u w p l) (hll : (l.length : Int) < 9223372036854775807) :
  Calls Tryz.prog 63 #[.pointer (some ⟨s 14, 0, none⟩), .slice p l.length cp] w fun e w' => Out lo hi w w' ∧
   (((∀ a ∈ l, (obM st a).isSome = true) ∧ e = .returned (.tuple #[.int .i64 ((J7 (Z6 n st) (kpS l) (64 * n) : Nat) : Int), .int .i64 0]) ∧ SpAt w' lo hi s n cap (G2 n st l)) ∨
    ((∃ a ∈ l, obM st a = none) ∧ e = .returned (.tuple #[.int .i64 0, .int .i64 22]) ∧ SpAt w' lo hi s n cap st)) := by
 refine (j5w h.1 (B7 st) (z3i h.2) (j2l h.2) hl hll).mono ?_; rintro e w' ⟨o, ⟨h1, h2, h3⟩ | ⟨h1, h2, h3⟩⟩
 ·exact ⟨o, .inl ⟨h1, h2, by rw [j5j h.2] at h3; exact h3, q7d h.2⟩⟩
 ·exact ⟨o, .inr ⟨h1, h2, h3, h.2⟩⟩
theorem z2m {P Q : Nat → Bool} {n k : Nat} (h : ∀ j, k ≤ j → j < n → P j = Q j) : nxr P n k = nxr Q n k := by
 unfold nxr; rw [j3g h]
theorem z1r {z : Int} (h : z ≤ 32) : J3 z = wN (ofV z) := by unfold J3; rw [if_neg (by omega)]
theorem z3c {z : Int} (h : 32 < z) : J3 z = ((z + 63) / 64).toNat * 64 := by unfold J3; rw [if_pos h]
theorem x1e {n : Nat} {st : Sp} {l : List Int} (a : Nat) : (G2 n st l).O a = if kpS l a then st.O a else noB := by
 obtain ⟨p1, p2, p3⟩ := z4b n (q5h n st (kpS l)) 8; exact congrFun p2 a
theorem z6n {n : Nat} {st : Sp} {l : List Int} (a : Nat) : Q7 ((G2 n st l).O a) = (Q7 (st.O a) && kpS l a) := by
 rw [x1e]; cases kpS l a with
 | true => simp
 | false => simp [j1o]
theorem j1a {n : Nat} {st : Sp} {l : List Int} (hi : Inv n st) (i : Nat) : q7v (Q6 n (Z6 n st) (kpS l) (64 * n)) i = true ↔ ∃ a, Q7 ((G2 n st l).O a) = true ∧ a ≤ i ∧ i < a + J3 (st.O a).2.1 := by
 unfold q7v; rw [List.any_eq_true]; have hP : ∀ a, (Q6 n (Z6 n st) (kpS l) (64 * n)).P a = (ob n st a && !(decide (a < 64 * n) && !kpS l a)) := fun a => (U6 (n := n) (r := Z6 n st) (kp := kpS l) (B7 st) (64 * n) a).1
 have hM : ∀ a, (Q6 n (Z6 n st) (kpS l) (64 * n)).P a = true → (Q6 n (Z6 n st) (kpS l) (64 * n)).M (a : Int) = obM st (a : Int) := fun a h => (U6 (n := n) (r := Z6 n st) (kp := kpS l) (B7 st) (64 * n) a).2.1 (.inl h)
 have key : ∀ a, (Q6 n (Z6 n st) (kpS l) (64 * n)).P a = Q7 ((G2 n st l).O a) := fun a => by
  rw [hP, z6n, z9j hi]; cases e : Q7 (st.O a) with
  | false => rfl
  | true => rw [show decide (a < 64 * n) = true from by simpa using (hi.objs a e).1]; simp
 have hMM : ∀ a, Q7 ((G2 n st l).O a) = true → (Q6 n (Z6 n st) (kpS l) (64 * n)).M (a : Int) = some (st.O a) := fun a h => by
  rw [hM a (by rw [key]; exact h)]; rw [z6n, Bool.and_eq_true] at h; unfold obM; rw [show ((a : Int)).toNat = a from by omega, if_pos ⟨by omega, h.1⟩]
 constructor
 ·rintro ⟨a, ha, hb⟩; rw [key, Bool.and_eq_true] at hb; rw [hMM a hb.1] at hb; exact ⟨a, hb.1, by simp at ha; omega, by simpa using hb.2⟩
 ·rintro ⟨a, ha, h1, h2⟩; refine ⟨a, by simp; omega, ?_⟩; rw [key, ha, hMM a ha]; simpa using h2
theorem q1d {n : Nat} {st : Sp} (hi : Inv n st) {a : Nat} (ha : Q7 (st.O a) = true) : (st.O a).2.1 ≤ (J3 (st.O a).2.1 : Int) ∧ a + J3 (st.O a).2.1 ≤ 64 * n := by
 obtain ⟨h1, h2, h3⟩ := hi.objs a ha; have hz := J8 h2; have hP : (Z6 n st).P a = true := by show ob n st a = true; rw [z9j hi]; exact ha
 obtain ⟨b, hb⟩ := B7 st a hP; obtain ⟨rfl, _⟩ := z3q hb; refine ⟨?_, (z3i hi a _ hP hb).2.2.1⟩; by_cases h : (st.O a).2.1 ≤ 32
 ·rw [z1r h]; have hc := W9 hz.2.2.1 h; unfold wN; have : 0 ≤ J2 (ofV (st.O a).2.1) := by omega
  omega
 ·rw [z3c (by omega)]; have := z6f (s := (st.O a).2.1) (by omega) hz.2.2.2; omega
def wth (x n : Int) : Int := (if x < 0 then -(x + 1) else x) % n
theorem j6n (x n : Int) (h : 0 < n) : 0 ≤ wth x n := Int.emod_nonneg _ (by omega)
theorem x1n (x n : Int) (h : 0 < n) : wth x n < n := Int.emod_lt_of_pos _ h
theorem j8t (x n : Int) (h : 0 < n) : ∃ m : Nat, wth x n = m ∧ (m : Int) < n := ⟨(wth x n).toNat, by have := j6n x n h; omega, by have := j6n x n h; have := x1n x n h; omega⟩
theorem z8y (x n : Int) (w : World) (h1 : -9223372036854775808 ≤ x) (h2 : x ≤ 9223372036854775807) (h3 : 0 < n) (h4 : n ≤ 4096) :
  Calls Tryz.prog 24 #[.int .i64 x, .int .i64 n] w fun e w' => e = .returned (.int .i64 (wth x n)) ∧ w' = w := by
 have hn0 : (n == 0) = false := by rw [beq_eq_false_iff_ne]; omega
 have hn1 : n ≠ 0 := by omega
 by_cases hx : x < 0
 ·have HE : Hid ((wrap64 (-wrap64 (x + 1))).tmod n = wth x n) := by
   have e1 : wrap64 (x + 1) = x + 1 := by unfold wrap64; omega
   have e2 : wrap64 (-(x + 1)) = -(x + 1) := by unfold wrap64; omega
   show (wrap64 (-wrap64 (x + 1))).tmod n = wth x n
   rw [e1, e2, Int.tmod_eq_emod_of_nonneg (by omega)]; unfold wth; rw [if_pos hx]
  clear h2 h4 h1; go_enter Tryz.func24, Tryz.ntmps24
  go_wp2; go_ret; exact ⟨U3 HE.out, rfl⟩
 ·have hx0 : 0 ≤ x := by omega
  have HE : Hid (x.tmod n = wth x n) := by
   show x.tmod n = wth x n
   rw [Int.tmod_eq_emod_of_nonneg hx0]; unfold wth; rw [if_neg hx]
  have HE2 : Hid (x % n = wth x n) := by
   show x % n = wth x n
   unfold wth; rw [if_neg hx]
  clear h2 h4 h1 hx; go_enter Tryz.func24, Tryz.ntmps24
  go_wp2; go_ret; exact ⟨U3 (by first | exact HE.out | exact HE2.out), rfl⟩
theorem j7x : (alF 1 newSp 1 3 0).1 = 0 ∧ (alF 1 newSp 1 3 0).2.1 = 0 ∧ (alF 1 newSp 1 3 0).2.2.1 = 0 := by decide +kernel
theorem j7t : (alF 1 (alF 1 newSp 1 3 0).2.2.2 1 3 0).1 = 4 ∧ (alF 1 (alF 1 newSp 1 3 0).2.2.2 1 3 0).2.1 = 0 ∧ (alF 1 (alF 1 newSp 1 3 0).2.2.2 1 3 0).2.2.1 = 0 := by decide +kernel
theorem j8a : z7r 1 (alF 1 (alF 1 newSp 1 3 0).2.2.2 1 3 0).2.2.2.W 8 = 100 := by decide +kernel
theorem j6d : ∃ st1 st2, alF 1 newSp 1 3 0 = (0, 0, 0, st1) ∧ alF 1 st1 1 3 0 = (4, 0, 0, st2) ∧ z7r 1 st2.W 8 = 100 := by
 obtain ⟨a1, a2, a3⟩ := j7x; obtain ⟨b1, b2, b3⟩ := j7t; exact ⟨_, _, Prod.ext a1 (Prod.ext a2 (Prod.ext a3 rfl)), Prod.ext b1 (Prod.ext b2 (Prod.ext b3 rfl)), j8a⟩
theorem q6l {w : World} {lo hi n cap : Nat} {s : Nat → Nat} {st st' : Sp} (h : SpAt w lo hi s n cap st) {k z t v e1 e2 : Int} (z1 : -9223372036854775808 ≤ z) (z2 : z ≤ 9223372036854775807) (hl : st.last < 4611686018427387904) (ha : alF n st k z t = (v, e1, e2, st')) :
  Calls Tryz.prog 13 #[.pointer (some ⟨s 14, 0, none⟩), .int .i64 k, .int .i64 z, .int .i64 t] w fun e w' => e = .returned (.tuple #[.int .i64 v, .agg #[.int .i64 e1, .int .i64 e2]]) ∧ SpAt w' lo hi s n cap st' ∧ Out lo hi w w' := by
 have := q2p h k z t z1 z2 hl; rw [ha] at this; exact this
theorem j1x {w : World} (hT : Tab w) : Calls Tryz.prog 6 #[] w fun e w' => e = .returned (.bool true) ∧ Out 0 0 w w' := by
 obtain ⟨st1, st2, h1, h2, h3⟩ := j6d; have HN := Z0 (z6u hT 1 (Nat.le_refl 1) (by omega)); rw [show ((1 : Nat) : Int) = 1 from rfl] at HN; have H1 := Z0 h1; have H2 := Z0 h2; have H3 := Z0 h3; have hl1 : Hid (st1.last < 4611686018427387904) := by
  have e : (alF 1 newSp 1 3 0).2.2.2.last = 1 := by decide +kernel
  rw [h1] at e
  show st1.last < _
  have : st1.last = 1 := e; omega
 clear hT h1 h2 h3; go_enter Tryz.func6, Tryz.ntmps6
 go_wp2_with fail; refine HN.out.mono ?_; rintro e w1 ⟨s, cap, rfl, hs, ho⟩; have HA1 := Z0 (q6l hs (by decide) (by decide) (by decide) H1.out); have HO1 := Z0 ho; obtain ⟨lo, hlo⟩ : ∃ lo, w.heap.size = lo := ⟨_, rfl⟩
 obtain ⟨hi, hhi⟩ : ∃ hi, w1.heap.size = hi := ⟨_, rfl⟩
 have HLo := Z0 (Nat.le_of_eq hlo); rw [hlo, hhi] at HA1; clear HN hs ho hlo hhi; go_wp2_with fail; refine HA1.out.mono ?_; rintro e w2 ⟨rfl, hs2, ho2⟩; have HO2 := Z0 (HO1.out.past ho2 HLo.out); have hA := (Out.refl 0 0 w2).alloc (.cells #[.int .i64 0, .int .i64 0] 39); have HA2 := Z0 (q6l (hs2.quiet hA) (by decide) (by decide) hl1.out H2.out); have HF2 := Z0 (heap_alloc_new w2 (.cells #[.int .i64 0, .int .i64 0] 39)); have HZ2 : Hid (hi ≤ w2.heap.size) := hs2.1.top; clear HA1 hs2 ho2 hA; go_wp2_with fail; refine HA2.out.mono ?_; rintro e w3 ⟨rfl, hs3, ho3⟩; have HO3 : Hid (Out 0 0 w w3) := (HO2.out.alloc _).past ho3 HLo.out; have HF3 := Z0 (ho3.heap HF2.out (.inr HZ2.out)); have hA := (Out.refl 0 0 w3).alloc (.cells #[.int .i64 0, .int .i64 0] 39); have HP := Z0 (q6e (hs3.quiet hA).1 8); rw [show z7r 1 (Z6 1 st2).W 8 = 100 from H3.out, show inB (64 * 1) 8 = true from by decide] at HP; obtain ⟨q0, q1, q2, q3⟩ := Z7 (hA.heap HF3.out z0); obtain ⟨p0, p1, p2, p3⟩ := Z7 (heap_alloc_new w3 (.cells #[.int .i64 0, .int .i64 0] 39)); clear HA2 hs3 ho3 hA; go_wp2_with (go_at_call 14; refine Z5 HP.out ?_); go_ret; exact ⟨rfl, HO3.out.alloc _⟩
end Go.Proofs.YtjbbkeoolodeaabGreatDoor
