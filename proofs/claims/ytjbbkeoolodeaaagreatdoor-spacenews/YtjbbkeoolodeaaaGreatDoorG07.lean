import Derived.Test.YtjbbkeoolodeaaaGreatDoorG05
import Derived.Test.YtjbbkeoolodeaaaGreatDoorG00
import Derived.Maps.OwnSet
import Derived.Test.YtjbbkeoolodeaaaGreatDoorG06
import Derived.Test.YtjbbkeoolodeaaaGreatDoorG04
import Derived.OwnWalk
import Derived.Test.YtjbbkeoolodeaaaGreatDoorG01
namespace Go.Proofs.YtjbbkeoolodeaaaGreatDoor
open Go.RowKit
set_option linter.unusedVariables false
set_option linter.unusedSimpArgs false

theorem inv_take {n : Nat} {st : Sp} {a : Nat} {kd s t : Int} {W' : Nat → Int} {S' : Nat → Int × Int × Int} (hi : Inv n st) (ha : hasB (st.O a) = false) (hf : fitsB kd s = true) (hg : Good n S')
    (hnew : ObOk n S' a (kd, s, serOf st kd, t)) (hold : ∀ b, b ≠ a → hasB (st.O b) = true → ObOk n S' b (st.O b)) (hh : ∀ q, q < n → (S' q).1 = 2 → 64 * q = a ∨ hasB (st.O (64 * q)) = true) :
    Inv n ⟨W', S', putO st.O a (kd, s, serOf st kd, t), lastOf st kd⟩ := by
  have hk := fits_size hf
  have hb : hasB (kd, s, serOf st kd, t) = true := by unfold hasB; simp; omega
  have hl : st.last ≤ lastOf st kd := by unfold lastOf; split <;> omega
  have hput : ∀ i, i ≠ a → putO st.O a (kd, s, serOf st kd, t) i = st.O i := fun i e => by unfold putO; rw [if_neg e]
  have hput' : putO st.O a (kd, s, serOf st kd, t) a = (kd, s, serOf st kd, t) := by unfold putO; rw [if_pos rfl]
  refine ⟨hi.n1, hi.n2, hg, ?_, ?_, ?_, ?_, ?_, ?_⟩
  · intro i h
    show ObOk n S' i (putO st.O a (kd, s, serOf st kd, t) i)
    by_cases e : i = a
    · subst e; rw [hput']; exact hnew
    · have h' : hasB (putO st.O a (kd, s, serOf st kd, t) i) = true := h
      rw [hput i e] at h' ⊢; exact hold i e h'
  · intro i h
    have h' : hasB (putO st.O a (kd, s, serOf st kd, t) i) = false := h
    show putO st.O a (kd, s, serOf st kd, t) i = noB
    by_cases e : i = a
    · subst e; rw [hput', hb] at h'; cases h'
    · rw [hput i e] at h' ⊢; exact hi.none i h'
  · intro q hq h2
    show hasB (putO st.O a (kd, s, serOf st kd, t) (64 * q)) = true
    rcases hh q hq h2 with e | e
    · rw [e, hput']; exact hb
    · by_cases e' : 64 * q = a
      · rw [e', hput']; exact hb
      · rw [hput _ e']; exact e
  · show 0 ≤ lastOf st kd
    have := hi.last0; omega
  · intro i h
    have h' : hasB (putO st.O a (kd, s, serOf st kd, t) i) = true := h
    show (numB (putO st.O a (kd, s, serOf st kd, t) i).1 = true → 1 ≤ (putO st.O a (kd, s, serOf st kd, t) i).2.2.1 ∧ (putO st.O a (kd, s, serOf st kd, t) i).2.2.1 ≤ lastOf st kd) ∧ (numB (putO st.O a (kd, s, serOf st kd, t) i).1 = false → (putO st.O a (kd, s, serOf st kd, t) i).2.2.1 = 0)
    by_cases e : i = a
    · subst e
      rw [hput']
      refine ⟨fun hn => ?_, fun hn => ?_⟩
      · have hn' : numB kd = true := hn
        show 1 ≤ serOf st kd ∧ serOf st kd ≤ lastOf st kd
        unfold serOf lastOf
        rw [if_pos hn', if_pos hn']
        have := hi.last0; omega
      · have hn' : numB kd = false := hn
        show serOf st kd = 0
        unfold serOf
        rw [if_neg (by simp [hn'])]
    · rw [hput i e] at h' ⊢
      have := hi.ser i h'
      exact ⟨fun hn => ⟨(this.1 hn).1, by have := (this.1 hn).2; omega⟩, this.2⟩
  · intro i j h1 h2 h3 h4
    have h1' : hasB (putO st.O a (kd, s, serOf st kd, t) i) = true := h1
    have h2' : hasB (putO st.O a (kd, s, serOf st kd, t) j) = true := h2
    have h3' : 1 ≤ (putO st.O a (kd, s, serOf st kd, t) i).2.2.1 := h3
    have h4' : (putO st.O a (kd, s, serOf st kd, t) i).2.2.1 = (putO st.O a (kd, s, serOf st kd, t) j).2.2.1 := h4
    have old : ∀ x, hasB (st.O x) = true → (st.O x).2.2.1 = serOf st kd → 1 ≤ serOf st kd → False := by
      intro x hx e1 e2
      have hs := hi.ser x hx
      unfold serOf at e1 e2
      by_cases hn : numB kd = true
      · rw [if_pos hn] at e1
        cases hx1 : numB (st.O x).1 with
        | true => have := (hs.1 hx1).2; omega
        | false => have := hs.2 hx1; have := hi.last0; omega
      · rw [if_neg hn] at e2; omega
    by_cases e : i = a
    · by_cases e' : j = a
      · rw [e, e']
      · exfalso
        subst e
        rw [hput', hput j e'] at h4'
        rw [hput'] at h3'
        rw [hput j e'] at h2'
        exact old j h2' h4'.symm h3'
    · by_cases e' : j = a
      · exfalso
        subst e'
        rw [hput', hput i e] at h4'
        rw [hput i e] at h1' h3'
        exact old i h1' h4' (show 1 ≤ serOf st kd from (show (st.O i).2.2.1 = serOf st kd from h4') ▸ h3')
      · rw [hput i e] at h1' h3' h4'
        rw [hput j e'] at h2' h4'
        exact hi.one i j h1' h2' h3' h4'
theorem run_k {s : Int} (h1 : 32 < s) (h2 : s ≤ 1024) : 1 ≤ ((s + 63) / 64).toNat ∧ ((s + 63) / 64).toNat ≤ 16 ∧ (((s + 63) / 64).toNat : Int) = (s + 63) / 64 := by omega
/-- an object's page is one of a class or a run's first -/
theorem ObOk.page {n a : Nat} {S : Nat → Int × Int × Int} {b : Blk} (h : ObOk n S a b) : a / 64 < n ∧ ((S (a / 64)).1 = 1 ∨ (S (a / 64)).1 = 2) := by
  obtain ⟨h1, _, h3⟩ := h
  refine ⟨by omega, ?_⟩
  rcases h3 with ⟨_, e, _⟩ | ⟨_, _, e⟩
  · rw [e]; exact .inl rfl
  · rw [e]; exact .inr rfl
theorem ObOk.same {n a : Nat} {S S' : Nat → Int × Int × Int} {b : Blk} (h : ObOk n S a b) (e : S' (a / 64) = S (a / 64)) : ObOk n S' a b := by
  obtain ⟨h1, h2, h3⟩ := h
  exact ⟨h1, h2, by rw [e]; exact h3⟩
/-- a great one -/
theorem take_run {n p : Nat} {st : Sp} {kd s t : Int} (hi : Inv n st) (hf : fitsB kd s = true) (h32 : 32 < s) (hr : rowF st.S n ((s + 63) / 64).toNat = some p) :
    Inv n (takeF n st (64 * p) false kd s t) ∧ (∀ c, fr n (takeF n st (64 * p) false kd s t) c = fr n st c) ∧ hasB (st.O (64 * p)) = false ∧ p + ((s + 63) / 64).toNat ≤ n := by
  obtain ⟨k1, k2, k3⟩ := run_k h32 (fits_size hf).2.2.2
  obtain ⟨p1, p2, p3⟩ := rowF_pages hi.good hr
  generalize hk : ((s + 63) / 64).toNat = k at *
  have hfree : ∀ a, hasB (st.O a) = true → a / 64 < p ∨ p + k ≤ a / 64 := by
    intro a ha
    have := (hi.objs a ha).page
    by_cases e : a / 64 < p ∨ p + k ≤ a / 64
    · exact e
    · have e1 := p3 (a / 64) (by omega) (by omega)
      rw [e1] at this
      simp at this
  have hS' : takeS st (64 * p) false s = setR st.S p k := by
    unfold takeS
    rw [if_pos h32, hk, show 64 * p / 64 = p from by omega]
  have out : ∀ j, (j < p ∨ p + k ≤ j) → setR st.S p k j = st.S j := by
    intro j hj
    unfold setR
    rw [if_neg (by omega), if_neg (by omega)]
  have hd : setR st.S p k p = (2, 0, (k : Int)) := by unfold setR; rw [if_pos rfl]
  have hrst : ∀ j, p < j → j < p + k → setR st.S p k j = (3, 0, 0) := by
    intro j a b
    unfold setR
    rw [if_neg (by omega), if_pos ⟨a, b⟩]
  have hno : hasB (st.O (64 * p)) = false := by
    cases e : hasB (st.O (64 * p)) with
    | false => rfl
    | true => have := hfree _ e; omega
  refine ⟨?_, ?_, hno, p2⟩
  · have := inv_take (W' := (takeF n st (64 * p) false kd s t).W) (S' := takeS st (64 * p) false s) (t := t) hi hno hf
      (by rw [hS']; exact good_setR hi.good p3 k1 k2 p2)
      (by rw [hS']; exact ⟨by omega, hf, .inr ⟨h32, by omega, by rw [show 64 * p / 64 = p from by omega, hd, ← k3]⟩⟩)
      (fun b _ hb => by rw [hS']; exact (hi.objs b hb).same (out _ (hfree b hb)))
      (fun q hq h2 => by
        rw [hS'] at h2
        by_cases e : q = p
        · left; omega
        · right
          by_cases e' : p < q ∧ q < p + k
          · rw [hrst q e'.1 e'.2] at h2; simp at h2
          · rw [out q (by omega)] at h2; exact hi.heads q hq h2)
    exact this
  · intro c
    funext i
    unfold fr
    show (decide (i < 64 * n) && (takeS st (64 * p) false s (i / 64) == (1, c, 0)) && startB c (i % 64) && !hasB (putO st.O (64 * p) (kd, s, serOf st kd, t) i)) = _
    rw [hS']
    by_cases e : i / 64 < p ∨ p + k ≤ i / 64
    · rw [out _ e]
      have : putO st.O (64 * p) (kd, s, serOf st kd, t) i = st.O i := by unfold putO; rw [if_neg (by omega)]
      rw [this]
    · have e1 := p3 (i / 64) (by omega) (by omega)
      have e2 : (setR st.S p k (i / 64) == (1, c, 0)) = false := by
        by_cases e3 : i / 64 = p
        · rw [e3, hd]; simp
        · rw [hrst _ (by omega) (by omega)]; simp
      rw [e2, e1]
      simp
/-- a small one, in a free block -/
theorem take_block {n a : Nat} {st : Sp} {kd s t : Int} (hi : Inv n st) (hf : fitsB kd s = true) (h32 : s ≤ 32) (ha : fr n st (ofV s) a = true) :
    Inv n (takeF n st a false kd s t) ∧ (∀ c, fr n (takeF n st a false kd s t) c = upd (fr n st c) a false) ∧ (∀ c, c ≠ ofV s → fr n st c a = false) := by
  obtain ⟨h1, h2, h3, h4⟩ := fr_iff.1 ha
  have hk := fits_size hf
  have hS' : takeS st a false s = st.S := by unfold takeS; rw [if_neg (by omega)]; simp
  refine ⟨?_, ?_, ?_⟩
  · have := inv_take (W' := (takeF n st a false kd s t).W) (S' := takeS st a false s) (t := t) hi h4 hf (by rw [hS']; exact hi.good)
      (by rw [hS']; exact ⟨h1, hf, .inl ⟨h32, h2, h3⟩⟩) (fun b _ hb => by rw [hS']; exact hi.objs b hb) (fun q hq h2 => by rw [hS'] at h2; exact .inr (hi.heads q hq h2))
    exact this
  · intro c
    funext i
    unfold fr
    show (decide (i < 64 * n) && (takeS st a false s (i / 64) == (1, c, 0)) && startB c (i % 64) && !hasB (putO st.O a (kd, s, serOf st kd, t) i)) = _
    rw [hS']
    unfold upd putO
    by_cases e : i = a
    · rw [if_pos e, if_pos e]
      have : hasB (kd, s, serOf st kd, t) = true := by unfold hasB; simp; omega
      rw [this]; simp
    · rw [if_neg e, if_neg e]
  · intro c hc
    cases e : fr n st c a with
    | false => rfl
    | true =>
      have := (fr_iff.1 e).2.1
      rw [h2] at this
      simp at this
      exact absurd this.symm hc
/-- a small one, in a page that its class takes -/
theorem take_fresh {n p : Nat} {st : Sp} {kd s t : Int} (hi : Inv n st) (hf : fitsB kd s = true) (h32 : s ≤ 32) (hr : rowF st.S n 1 = some p) :
    Inv n (takeF n st (64 * p) true kd s t) ∧ (∀ c i, fr n (takeF n st (64 * p) true kd s t) c i = if i / 64 = p then (decide (c = ofV s) && startB c (i % 64) && decide (i ≠ 64 * p)) else fr n st c i) ∧ (∀ a, a / 64 = p → hasB (st.O a) = false) ∧ p < n ∧ st.S p = (0, 0, 0) := by
  obtain ⟨p1, p2, p3⟩ := rowF_pages hi.good hr
  have hk := fits_size hf
  have hc := of_small hk.2.2.1 h32
  have hS' : takeS st (64 * p) true s = setC st.S p (ofV s) := by
    unfold takeS
    rw [if_neg (by omega), if_pos rfl, show 64 * p / 64 = p from by omega]
  have hp0 := p3 p (by omega) (by omega)
  have hno : ∀ a, a / 64 = p → hasB (st.O a) = false := by
    intro a hap
    cases e : hasB (st.O a) with
    | false => rfl
    | true =>
      have := (hi.objs a e).page
      rw [hap, hp0] at this
      simp at this
  have out : ∀ j, j ≠ p → setC st.S p (ofV s) j = st.S j := fun j hj => by unfold setC; rw [if_neg hj]
  have hin : setC st.S p (ofV s) p = (1, ofV s, 0) := by unfold setC; rw [if_pos rfl]
  refine ⟨?_, ?_, hno, p1, hp0⟩
  · have := inv_take (W' := (takeF n st (64 * p) true kd s t).W) (S' := takeS st (64 * p) true s) (t := t) hi (hno (64 * p) (by omega)) hf (by rw [hS']; exact good_setC hi.good hp0 hc.1 hc.2.1)
      (by
        rw [hS']
        refine ⟨by omega, hf, .inl ⟨h32, by rw [show 64 * p / 64 = p from by omega, hin], ?_⟩⟩
        have hw := wN_pos hc.1 hc.2.1
        show startB (ofV s) (64 * p % 64) = true
        rw [show 64 * p % 64 = 0 from by omega]
        unfold startB
        simp; omega)
      (fun b _ hb => by
        rw [hS']
        refine (hi.objs b hb).same (out (b / 64) (fun e => ?_))
        rw [hno b e] at hb; cases hb)
      (fun q hq h2 => by
        rw [hS'] at h2
        by_cases e : q = p
        · left; omega
        · rw [out q e] at h2; exact .inr (hi.heads q hq h2))
    exact this
  · intro c i
    unfold fr
    show (decide (i < 64 * n) && (takeS st (64 * p) true s (i / 64) == (1, c, 0)) && startB c (i % 64) && !hasB (putO st.O (64 * p) (kd, s, serOf st kd, t) i)) = _
    rw [hS']
    by_cases e : i / 64 = p
    · rw [if_pos e, e, hin]
      have e1 : ((1, ofV s, 0) == ((1 : Int), c, (0 : Int))) = decide (c = ofV s) := by
        rw [Bool.eq_iff_iff]; simp; exact eq_comm
      rw [e1, show decide (i < 64 * n) = true from by simp; omega]
      unfold putO
      by_cases e2 : i = 64 * p
      · rw [if_pos e2]
        have : hasB (kd, s, serOf st kd, t) = true := by unfold hasB; simp; omega
        rw [this, show decide (i ≠ 64 * p) = false from by simp [e2]]
        simp
      · rw [if_neg e2, hno i e, show decide (i ≠ 64 * p) = true from by simp [e2]]
        simp
    · rw [if_neg e, out _ e]
      have : putO st.O (64 * p) (kd, s, serOf st kd, t) i = st.O i := by unfold putO; rw [if_neg (by omega)]
      rw [this]
end Go.Proofs.YtjbbkeoolodeaaaGreatDoor
namespace Go.Proofs.YtjbbkeoolodeaaaGreatDoor
open Go.RowKit Go.MapKept
open Go.ChangeMaps (setBlock)
set_option linter.unusedVariables false
set_option linter.unusedSimpArgs false

/-- block b is a map: at the key a 'f a' -/
def MpAt (w : World) (b : Nat) (f : Int → Option Value) : Prop :=
  ∃ es clock, w.heap[b]? = some (.map es clock) ∧ Stamped es clock ∧ (∀ x ∈ es.toList, ∃ a, x.key = .int .i64 a) ∧ ∀ a v, f a = some v ↔ ∃ x ∈ es.toList, x.key = .int .i64 a ∧ x.val = v
theorem MpAt.lt {w : World} {b : Nat} {f : Int → Option Value} (h : MpAt w b f) : b < w.heap.size := by
  obtain ⟨es, clock, hb, _⟩ := h
  exact heap_lt hb
theorem MpAt.kept {w w' : World} {b lo hi : Nat} {f : Int → Option Value} (h : MpAt w b f) (o : Out lo hi w w') (hd : b < lo ∨ hi ≤ b) : MpAt w' b f := by
  obtain ⟨es, clock, hb, r⟩ := h
  exact ⟨es, clock, o.heap hb hd, r⟩
theorem MpAt.congr {w : World} {b : Nat} {f g : Int → Option Value} (h : MpAt w b f) (e : ∀ a, f a = g a) : MpAt w b g := by
  have : f = g := funext e
  rw [← this]; exact h
theorem MpAt.isKeys {es : Array MapEntry} (h : ∀ x ∈ es.toList, ∃ a, x.key = .int .i64 a) : ∀ x ∈ es.toList, IsKey (.int .i64) x.key := fun x hx => by
  obtain ⟨a, e⟩ := h x hx
  rw [e]; exact rfl
section
variable {P : Program} {w : World} {t k e : TypeId} {b : Nat} {f : Int → Option Value}
theorem mp_look (c : Bool) (ht : P.underlying t = some (.map k e)) (hk : P.underlying k = some (.int .i64)) {z : Value} (hz : (zeroValue e).run P w = .ok z w) (h : MpAt w b f) (a : Int) :
    (Instr.lookup t (.map (some b)) (.int .i64 a) c).run P w = .ok (if c then .tuple #[(f a).getD z, .bool (f a).isSome] else (f a).getD z) w := by
  obtain ⟨es, clock, hb, hs, hks, hf⟩ := h
  have ik : IsKey (.int .i64) (.int .i64 a) := rfl
  rcases findNow_spec ik es.toList 0 (MpAt.isKeys hks) with ⟨h1, h2⟩ | ⟨j, e0, h1, h2, h3⟩
  · have hn : f a = none := by
      cases hfa : f a with
      | none => rfl
      | some v =>
        obtain ⟨x, hx, hxk, _⟩ := (hf a v).1 hfa
        exact absurd hxk (h2 x hx)
    simp [Instr.lookup, run_underlying ht, MapKept.run_getObj_map hb, run_checkKey hk ik, run_findKey hk h1, hz, hn, Result.andThen]
  · have hv : f a = some e0.val := (hf a _).2 ⟨e0, List.mem_of_getElem? h2, h3, rfl⟩
    simp [Instr.lookup, run_underlying ht, MapKept.run_getObj_map hb, run_checkKey hk ik, run_findKey hk h1, hv, Result.andThen]
theorem out_setBlock {es : Array MapEntry} {clock : Nat} (hb : w.heap[b]? = some (.map es clock)) (o : Obj) : Out b (b + 1) w { w with heap := w.heap.setIfInBounds b o } :=
  ⟨rfl, rfl, rfl, by simp, fun j h1 h2 => (heap_set (o' := o) hb).2 j (by omega)⟩
theorem mp_put (ht : P.underlying t = some (.map k e)) (hk : P.underlying k = some (.int .i64)) (h : MpAt w b f) (a : Int) (v : Value) :
    ∃ w', (Instr.mapUpdate t (.map (some b)) (.int .i64 a) v).run P w = .ok () w' ∧ MpAt w' b (fun x => if x = a then some v else f x) ∧ Out b (b + 1) w w' := by
  obtain ⟨es, clock, hb, hs, hks, hf⟩ := h
  have ik : IsKey (.int .i64) (.int .i64 a) := rfl
  rcases findNow_spec ik es.toList 0 (MpAt.isKeys hks) with ⟨h1, h2⟩ | ⟨j, e0, h1, h2, h3⟩
  · refine ⟨_, by simp [Instr.mapUpdate, run_underlying ht, MapKept.run_getObj_map hb, run_checkKey hk ik, run_findKey hk h1, MapKept.run_setObj_map _ hb, Result.andThen]; rfl, ⟨_, _, (heap_set hb).1, stamped_push hs h2, ?_, ?_⟩, out_setBlock hb _⟩
    · intro x hx
      simp only [Array.toList_push, List.mem_append, List.mem_singleton] at hx
      rcases hx with hx | rfl
      · exact hks x hx
      · exact ⟨a, rfl⟩
    · intro a' v'
      show (if a' = a then some v else f a') = some v' ↔ _
      by_cases ea : a' = a
      · subst ea
        rw [if_pos rfl]
        constructor
        · intro hv
          cases hv
          exact ⟨⟨_, _, clock⟩, by simp, rfl, rfl⟩
        · rintro ⟨x, hx, hxk, rfl⟩
          simp only [Array.toList_push, List.mem_append, List.mem_singleton] at hx
          rcases hx with hx | rfl
          · exact absurd hxk (h2 x hx)
          · rfl
      · rw [if_neg ea, hf]
        constructor
        · rintro ⟨x, hx, hxk, hxv⟩
          exact ⟨x, by simp [hx], hxk, hxv⟩
        · rintro ⟨x, hx, hxk, hxv⟩
          simp only [Array.toList_push, List.mem_append, List.mem_singleton] at hx
          rcases hx with hx | rfl
          · exact ⟨x, hx, hxk, hxv⟩
          · simp at hxk
            exact absurd hxk.symm ea
  · have hj : es[j]? = some e0 := by simpa using h2
    have hjl : j < es.toList.length := (List.getElem?_eq_some_iff.1 h2).1
    have hkey : ∀ e', es[j]? = some e' → ({ e' with key := .int .i64 a, val := v } : MapEntry).key = e'.key := fun e' he' => by rw [hj] at he'; cases he'; exact h3.symm
    have hlist : (es.modify j (fun e' => { e' with key := .int .i64 a, val := v })).toList = es.toList.set j { e0 with key := .int .i64 a, val := v } := by rw [Array.toList_modify, ChangeMaps.modify_eq_set _ _ _ _ h2]
    have hapart : ∀ x ∈ es.toList, x.key = .int .i64 a → x = e0 := by
      intro x hx hxk
      obtain ⟨i, hi, rfl⟩ := List.getElem_of_mem hx
      by_cases e1 : i = j
      · subst e1
        rw [List.getElem?_eq_getElem hi] at h2
        exact Option.some.inj h2
      · have hp := ((stamped_iff es clock).1 hs).2.2
        rw [List.pairwise_iff_getElem] at hp
        rw [List.getElem?_eq_getElem hjl] at h2
        have h2' := Option.some.inj h2
        rcases Nat.lt_or_gt_of_ne e1 with hlt | hlt
        · exact absurd (by rw [hxk, h2', h3]) (hp i j hi hjl hlt)
        · exact absurd (by rw [hxk, h2', h3]) (hp j i hjl hi hlt)
    refine ⟨{ w with heap := w.heap.setIfInBounds b (.map (es.modify j (fun e' => { e' with key := .int .i64 a, val := v })) clock) }, by simp [Instr.mapUpdate, run_underlying ht, MapKept.run_getObj_map hb, run_checkKey hk ik, run_findKey hk h1, hj, h3, run_keyThatStays ik, MapKept.run_setObj_map _ hb, Result.andThen], ⟨es.modify j (fun e' => { e' with key := .int .i64 a, val := v }), clock, (heap_set hb).1, stamped_modify hs _ _ (fun _ _ => rfl) (fun e' _ he' => hkey e' he'), ?_, ?_⟩, out_setBlock hb _⟩
    · intro x hx
      rw [hlist] at hx
      rcases List.mem_or_eq_of_mem_set hx with hx | rfl
      · exact hks x hx
      · exact ⟨a, rfl⟩
    · intro a' v'
      rw [hlist]
      show (if a' = a then some v else f a') = some v' ↔ _
      by_cases ea : a' = a
      · subst ea
        rw [if_pos rfl]
        constructor
        · intro hv
          cases hv
          exact ⟨_, List.mem_set hjl _, rfl, rfl⟩
        · rintro ⟨x, hx, hxk, rfl⟩
          obtain ⟨i, hi, rfl⟩ := List.getElem_of_mem hx
          rw [List.getElem_set] at hxk ⊢
          by_cases e1 : j = i
          · simp [e1]
          · rw [if_neg e1] at hxk ⊢
            have hi' : i < es.toList.length := by simpa using hi
            have := hapart _ (List.getElem_mem hi') hxk
            have hp := ((stamped_iff es clock).1 hs).2.2
            rw [List.pairwise_iff_getElem] at hp
            rw [List.getElem?_eq_getElem hjl] at h2
            have h2' := Option.some.inj h2
            rcases Nat.lt_or_gt_of_ne e1 with hlt | hlt
            · exact absurd (by rw [hxk, h2', h3]) (hp j i hjl hi' hlt)
            · exact absurd (by rw [hxk, h2', h3]) (hp i j hi' hjl hlt)
      · rw [if_neg ea, hf]
        constructor
        · rintro ⟨x, hx, hxk, hxv⟩
          obtain ⟨i, hi, rfl⟩ := List.getElem_of_mem hx
          by_cases e1 : j = i
          · subst e1
            rw [List.getElem?_eq_getElem hjl] at h2
            rw [Option.some.inj h2, h3] at hxk
            simp at hxk
            exact absurd hxk.symm ea
          · refine ⟨es.toList[i], List.mem_iff_getElem.2 ⟨i, by simpa using hi, by rw [List.getElem_set, if_neg e1]⟩, hxk, hxv⟩
        · rintro ⟨x, hx, hxk, hxv⟩
          rcases List.mem_or_eq_of_mem_set hx with hx | rfl
          · exact ⟨x, hx, hxk, hxv⟩
          · simp at hxk
            exact absurd hxk.symm ea
end
end Go.Proofs.YtjbbkeoolodeaaaGreatDoor
namespace Go.Proofs.YtjbbkeoolodeaaaGreatDoor
open Go.RowKit
set_option linter.unusedVariables false
set_option linter.unusedSimpArgs false

end Go.Proofs.YtjbbkeoolodeaaaGreatDoor
namespace Go.Proofs.YtjbbkeoolodeaaaGreatDoor
open Go.RowKit
set_option linter.unusedVariables false
set_option linter.unusedSimpArgs false

end Go.Proofs.YtjbbkeoolodeaaaGreatDoor
namespace Go.Proofs.YtjbbkeoolodeaaaGreatDoor
open Go.ChangeShapes Go.WideShapes Go.ChangeAt Go.RowKit
set_option linter.unusedVariables false
set_option linter.unusedSimpArgs false

theorem hgood_any (a k n : Int) (w : World) : Calls Tryz.prog 136 #[.int .i64 a, .int .i64 k, .int .i64 n] w fun e w' => e = .returned (.bool (goodB a k n)) ∧ w' = w := by
  go_enter Tryz.func136, Tryz.ntmps136
  go_wp2
  all_goals go_ret
  all_goals refine ⟨ret_bool ?_, rfl⟩
  all_goals (unfold goodB; rw [Bool.eq_iff_iff]; simp; try omega)
theorem sign_any (a k n : Int) (w : World) (h : HGood a k n) : Calls Tryz.prog 137 #[.int .i64 a, .int .i64 k, .int .i64 n] w fun e w' => e = .returned (.int .i64 (signV (xV a k n))) ∧ w' = w := by
  have H := hid_mk (sign_eq h)
  clear h
  generalize signV (xV a k n) = s at *
  go_enter Tryz.func137, Tryz.ntmps137
  go_wp2
  go_ret
  exact ⟨ret_int H.out, rfl⟩
theorem hmake_any (a k n : Int) (w : World) : Calls Tryz.prog 98 #[.int .i64 a, .int .i64 k, .int .i64 n] w fun e w' => e = .returned (.int .i64 (makeV a k n)) ∧ w' = w := by
  have G := hid_mk (hgood_any a k n)
  by_cases h : HGood a k n
  · have H := hid_mk (make_eq h)
    have S := hid_mk (fun w => sign_any a k n w h)
    rw [good_true h] at G
    clear h
    generalize makeV a k n = r at *
    generalize signV (xV a k n) = s at *
    go_enter Tryz.func98, Tryz.ntmps98
    go_wp2_with (first
      | (go_at_call 136; refine calls_same (G.out _) ?_)
      | (go_at_call 137; refine calls_same (S.out _) ?_))
    go_ret
    exact ⟨ret_int H.out, rfl⟩
  · rw [make_bad h]
    rw [good_false h] at G
    clear h
    go_enter Tryz.func98, Tryz.ntmps98
    go_wp2_with (go_at_call 136; refine calls_same (G.out _) ?_)
    go_ret
    exact ⟨rfl, rfl⟩
end Go.Proofs.YtjbbkeoolodeaaaGreatDoor
namespace Go.Proofs.YtjbbkeoolodeaaaGreatDoor
open Go.RowKit
set_option linter.unusedVariables false
set_option linter.unusedSimpArgs false

/-- the parts of a space, each as it lies -/
structure Raw where
  W : Nat → Int
  S : Nat → Int × Int × Int
  F : Nat → Nat → Bool
  P : Nat → Bool
  M : Int → Option Blk
  R : Int → Option Int
  last : Int
def blkV (a : Int) (b : Blk) : Value := .agg #[.int .i64 a, .int .i64 b.1, .int .i64 b.2.1, .int .i64 b.2.2.1, .int .i64 b.2.2.2]
/-- 0 to 7: the free blocks of each class; 8: the places; 9, 10: the table and its pages; 11: the words; 12, 13: the two maps; 14: the struct -/
def ln (i : Nat) : Nat := if i < 9 then 2 else 1
def spCells (s : Nat → Nat) (n cap : Nat) (last : Int) : Array Value :=
  #[.slice (some ⟨s 11, 0, none⟩) (64 * n) cap, .pointer (some ⟨s 9, 0, none⟩), .map (some (s 12)), .pointer (some ⟨s 8 + 1, 0, none⟩), .pointer (some ⟨s 0 + 1, 0, none⟩), .pointer (some ⟨s 1 + 1, 0, none⟩), .pointer (some ⟨s 2 + 1, 0, none⟩),
    .pointer (some ⟨s 3 + 1, 0, none⟩), .pointer (some ⟨s 4 + 1, 0, none⟩), .pointer (some ⟨s 5 + 1, 0, none⟩), .pointer (some ⟨s 6 + 1, 0, none⟩), .pointer (some ⟨s 7 + 1, 0, none⟩), .map (some (s 13)), .int .i64 last]
def mapM (M : Int → Option Blk) (a : Int) : Option Value := (M a).map (blkV a)
def mapR (R : Int → Option Int) (a : Int) : Option Value := (R a).map (fun x => .int .i64 x)
structure RawAt (w : World) (lo hi : Nat) (s : Nat → Nat) (n cap : Nat) (r : Raw) : Prop where
  glob : 4 ≤ lo
  top : hi ≤ w.heap.size
  inn : ∀ i, i < 15 → lo ≤ s i ∧ s i + ln i ≤ hi
  apart : ∀ i j, i < 15 → j < 15 → i ≠ j → s i + ln i ≤ s j ∨ s j + ln j ≤ s i
  n1 : 1 ≤ n
  n2 : n ≤ 4096
  capn : 64 * n ≤ cap
  tab : Tab w
  self : w.heap[s 14]? = some (.cells (spCells s n cap r.last) 85 (0, 0))
  words : Row w (s 11) 3 (64 * n) (fun i => .int .i64 (r.W i))
  tbl : TblAt 126 w (s 9) (s 10) n r.S
  objs : MpAt w (s 12) (mapM r.M)
  sers : MpAt w (s 13) (mapR r.R)
  places : MapAt w (s 8) (s 8 + 2) (s 8 + 1) (64 * n) r.P
  free : ∀ c, c < 8 → MapAt w (s c) (s c + 2) (s c + 1) (64 * n) (r.F c)
section
variable {w w' : World} {lo hi n cap : Nat} {s : Nat → Nat} {r : Raw}
/-- what is written beside it -/
theorem RawAt.kept {x y : Nat} (h : RawAt w lo hi s n cap r) (o : Out x y w w') (hd : hi ≤ x ∨ y ≤ lo) (hg : 4 ≤ x ∨ y = 0) : RawAt w' lo hi s n cap r := by
  have ini := fun i hi => h.inn i hi
  have h8 := ini 8 (by omega)
  have h9 := ini 9 (by omega)
  have h10 := ini 10 (by omega)
  have h11 := ini 11 (by omega)
  have h12 := ini 12 (by omega)
  have h13 := ini 13 (by omega)
  have h14 := ini 14 (by omega)
  simp [ln] at h8 h9 h10 h11 h12 h13 h14
  refine ⟨h.glob, Nat.le_trans h.top o.size, h.inn, h.apart, h.n1, h.n2, h.capn, h.tab.kept o hg, o.heap h.self (by omega), h.words.kept o (by omega), h.tbl.kept o (by omega) (by omega), h.objs.kept o (by omega), h.sers.kept o (by omega), h.places.kept o (by omega) hg, fun c hc => (h.free c hc).kept o ?_ hg⟩
  have := ini c (by omega)
  simp [ln, show c < 9 from by omega] at this
  omega
theorem RawAt.quiet (h : RawAt w lo hi s n cap r) (o : Out 0 0 w w') : RawAt w' lo hi s n cap r := h.kept o (.inr (Nat.zero_le _)) (.inr rfl)
theorem RawAt.wide (h : RawAt w lo hi s n cap r) {i : Nat} (hi' : i < 15) (o : Out (s i) (s i + ln i) w w') : Out lo hi w w' := o.wide (h.inn i hi').1 (h.inn i hi').2
/-- one part is written: the others stay -/
theorem RawAt.but (h : RawAt w lo hi s n cap r) {i : Nat} (hi' : i < 15) (o : Out (s i) (s i + ln i) w w') :
    4 ≤ s i ∧ hi ≤ w'.heap.size ∧ Tab w' ∧ (i ≠ 14 → w'.heap[s 14]? = some (.cells (spCells s n cap r.last) 85 (0, 0))) ∧ (i ≠ 11 → Row w' (s 11) 3 (64 * n) (fun i => .int .i64 (r.W i))) ∧
      (i ≠ 9 → i ≠ 10 → TblAt 126 w' (s 9) (s 10) n r.S) ∧ (i ≠ 12 → MpAt w' (s 12) (mapM r.M)) ∧ (i ≠ 13 → MpAt w' (s 13) (mapR r.R)) ∧
      (i ≠ 8 → MapAt w' (s 8) (s 8 + 2) (s 8 + 1) (64 * n) r.P) ∧ (∀ c, c < 8 → i ≠ c → MapAt w' (s c) (s c + 2) (s c + 1) (64 * n) (r.F c)) := by
  have hg : 4 ≤ s i := by have := (h.inn i hi').1; have := h.glob; omega
  have ap := fun j hj hne => h.apart i j hi' hj hne
  have l1 : ∀ j, 9 ≤ j → ln j = 1 := fun j hj => by unfold ln; rw [if_neg (by omega)]
  have l2 : ∀ j, j < 9 → ln j = 2 := fun j hj => by unfold ln; rw [if_pos hj]
  refine ⟨hg, Nat.le_trans h.top o.size, h.tab.kept o (.inl hg), fun e => o.heap h.self ?_, fun e => h.words.kept o ?_, fun e e' => h.tbl.kept o ?_ ?_, fun e => h.objs.kept o ?_, fun e => h.sers.kept o ?_, fun e => h.places.kept o ?_ (.inl hg), fun c hc e => (h.free c hc).kept o ?_ (.inl hg)⟩
  · have := ap 14 (by omega) e; rw [l1 14 (by omega)] at this; omega
  · have := ap 11 (by omega) e; rw [l1 11 (by omega)] at this; omega
  · have := ap 9 (by omega) e; rw [l1 9 (by omega)] at this; omega
  · have := ap 10 (by omega) e'; rw [l1 10 (by omega)] at this; omega
  · have := ap 12 (by omega) e; rw [l1 12 (by omega)] at this; omega
  · have := ap 13 (by omega) e; rw [l1 13 (by omega)] at this; omega
  · have := ap 8 (by omega) e; rw [l2 8 (by omega)] at this; omega
  · have := ap c (by omega) e; rw [l2 c (by omega)] at this; omega
theorem RawAt.setF (h : RawAt w lo hi s n cap r) {c : Nat} (hc : c < 8) {S' : Nat → Bool} (o : Out (s c) (s c + 2) w w') (hm : MapAt w' (s c) (s c + 2) (s c + 1) (64 * n) S') :
    RawAt w' lo hi s n cap { r with F := fun d => if d = c then S' else r.F d } := by
  obtain ⟨b0, b1, b2, b3, b4, b5, b6, b7, b8, b9⟩ := h.but (i := c) (by omega) (by unfold ln; rw [if_pos (show c < 9 from by omega)]; exact o)
  refine ⟨h.glob, b1, h.inn, h.apart, h.n1, h.n2, h.capn, b2, b3 (by omega), b4 (by omega), b5 (by omega) (by omega), b6 (by omega), b7 (by omega), b8 (by omega), fun d hd => ?_⟩
  show MapAt w' (s d) (s d + 2) (s d + 1) (64 * n) (if d = c then S' else r.F d)
  by_cases e : d = c
  · rw [if_pos e, e]; exact hm
  · rw [if_neg e]; exact b9 d hd (fun e' => e e'.symm)
theorem RawAt.setP (h : RawAt w lo hi s n cap r) {S' : Nat → Bool} (o : Out (s 8) (s 8 + 2) w w') (hm : MapAt w' (s 8) (s 8 + 2) (s 8 + 1) (64 * n) S') : RawAt w' lo hi s n cap { r with P := S' } := by
  obtain ⟨b0, b1, b2, b3, b4, b5, b6, b7, b8, b9⟩ := h.but (i := 8) (by omega) o
  exact ⟨h.glob, b1, h.inn, h.apart, h.n1, h.n2, h.capn, b2, b3 (by omega), b4 (by omega), b5 (by omega) (by omega), b6 (by omega), b7 (by omega), hm, fun d hd => b9 d hd (by omega)⟩
theorem RawAt.setT (h : RawAt w lo hi s n cap r) {S' : Nat → Int × Int × Int} (o : Out (s 10) (s 10 + 1) w w') (hm : TblAt 126 w' (s 9) (s 10) n S') : RawAt w' lo hi s n cap { r with S := S' } := by
  obtain ⟨b0, b1, b2, b3, b4, b5, b6, b7, b8, b9⟩ := h.but (i := 10) (by omega) o
  exact ⟨h.glob, b1, h.inn, h.apart, h.n1, h.n2, h.capn, b2, b3 (by omega), b4 (by omega), hm, b6 (by omega), b7 (by omega), b8 (by omega), fun d hd => b9 d hd (by omega)⟩
theorem RawAt.setW (h : RawAt w lo hi s n cap r) {W' : Nat → Int} (o : Out (s 11) (s 11 + 1) w w') (hm : Row w' (s 11) 3 (64 * n) (fun i => .int .i64 (W' i))) : RawAt w' lo hi s n cap { r with W := W' } := by
  obtain ⟨b0, b1, b2, b3, b4, b5, b6, b7, b8, b9⟩ := h.but (i := 11) (by omega) o
  exact ⟨h.glob, b1, h.inn, h.apart, h.n1, h.n2, h.capn, b2, b3 (by omega), hm, b5 (by omega) (by omega), b6 (by omega), b7 (by omega), b8 (by omega), fun d hd => b9 d hd (by omega)⟩
theorem RawAt.setM (h : RawAt w lo hi s n cap r) {M' : Int → Option Blk} (o : Out (s 12) (s 12 + 1) w w') (hm : MpAt w' (s 12) (mapM M')) : RawAt w' lo hi s n cap { r with M := M' } := by
  obtain ⟨b0, b1, b2, b3, b4, b5, b6, b7, b8, b9⟩ := h.but (i := 12) (by omega) o
  exact ⟨h.glob, b1, h.inn, h.apart, h.n1, h.n2, h.capn, b2, b3 (by omega), b4 (by omega), b5 (by omega) (by omega), hm, b7 (by omega), b8 (by omega), fun d hd => b9 d hd (by omega)⟩
theorem RawAt.setR (h : RawAt w lo hi s n cap r) {R' : Int → Option Int} (o : Out (s 13) (s 13 + 1) w w') (hm : MpAt w' (s 13) (mapR R')) : RawAt w' lo hi s n cap { r with R := R' } := by
  obtain ⟨b0, b1, b2, b3, b4, b5, b6, b7, b8, b9⟩ := h.but (i := 13) (by omega) o
  exact ⟨h.glob, b1, h.inn, h.apart, h.n1, h.n2, h.capn, b2, b3 (by omega), b4 (by omega), b5 (by omega) (by omega), b6 (by omega), hm, b8 (by omega), fun d hd => b9 d hd (by omega)⟩
theorem RawAt.setL (h : RawAt w lo hi s n cap r) (v : Int) : RawAt (w.setCell ⟨s 14, 13, none⟩ (.int .i64 v)) lo hi s n cap { r with last := v } ∧ Out (s 14) (s 14 + 1) w (w.setCell ⟨s 14, 13, none⟩ (.int .i64 v)) := by
  have o : Out (s 14) (s 14 + 1) w (w.setCell ⟨s 14, 13, none⟩ (.int .i64 v)) := (Out.refl _ _ _).setCell (.inl ⟨Nat.le_refl _, Nat.lt_succ_self _⟩) _
  obtain ⟨b0, b1, b2, b3, b4, b5, b6, b7, b8, b9⟩ := h.but (i := 14) (by omega) o
  refine ⟨⟨h.glob, b1, h.inn, h.apart, h.n1, h.n2, h.capn, b2, ?_, b4 (by omega), b5 (by omega) (by omega), b6 (by omega), b7 (by omega), b8 (by omega), fun d hd => b9 d hd (by omega)⟩, o⟩
  simp [World.setCell, Array.getElem?_modify, h.self]
  simp [spCells]
/-- the struct's cells -/
theorem RawAt.cells (h : RawAt w lo hi s n cap r) : w.cell? ⟨s 14, 0, none⟩ = some (.slice (some ⟨s 11, 0, none⟩) (64 * n) cap) ∧ w.cell? ⟨s 14, 1, none⟩ = some (.pointer (some ⟨s 9, 0, none⟩)) ∧ w.cell? ⟨s 14, 2, none⟩ = some (.map (some (s 12))) ∧
    w.cell? ⟨s 14, 3, none⟩ = some (.pointer (some ⟨s 8 + 1, 0, none⟩)) ∧ w.cell? ⟨s 14, 12, none⟩ = some (.map (some (s 13))) ∧ w.cell? ⟨s 14, 13, none⟩ = some (.int .i64 r.last) := by
  have h' := h.self
  refine ⟨?_, ?_, ?_, ?_, ?_, ?_⟩ <;> simp [World.cell?, h', spCells]
theorem RawAt.cellF (h : RawAt w lo hi s n cap r) {c : Nat} (hc : c < 8) : w.cell? ⟨s 14, 4 + c, none⟩ = some (.pointer (some ⟨s c + 1, 0, none⟩)) := by
  have h' := h.self
  have : c = 0 ∨ c = 1 ∨ c = 2 ∨ c = 3 ∨ c = 4 ∨ c = 5 ∨ c = 6 ∨ c = 7 := by omega
  rcases this with rfl | rfl | rfl | rfl | rfl | rfl | rfl | rfl <;> simp [World.cell?, h', spCells]
theorem RawAt.cellL (h : RawAt w lo hi s n cap r) : w.frozen? ⟨s 14, 13, none⟩ = false := by
  have h' := h.self
  simp [World.frozen?, h']
theorem RawAt.congr {r' : Raw} (h : RawAt w lo hi s n cap r) (e : r = r') : RawAt w lo hi s n cap r' := e ▸ h
theorem Raw.eq {a b : Raw} (h1 : a.W = b.W) (h2 : a.S = b.S) (h3 : a.F = b.F) (h4 : a.P = b.P) (h5 : a.M = b.M) (h6 : a.R = b.R) (h7 : a.last = b.last) : a = b := by
  cases a; cases b; simp_all
end
/-! tied -/
def obM (st : Sp) (a : Int) : Option Blk := if 0 ≤ a ∧ hasB (st.O a.toNat) = true then some (st.O a.toNat) else none
def serF (n : Nat) (st : Sp) (x : Int) : Option Nat := if 1 ≤ x then (List.range (64 * n)).find? (fun a => hasB (st.O a) && ((st.O a).2.2.1 == x)) else none
def serM (n : Nat) (st : Sp) (x : Int) : Option Int := (serF n st x).map (fun a => (a : Int))
def rawOf (n : Nat) (st : Sp) : Raw := ⟨st.W, st.S, fun c => fr n st (c : Int), ob n st, obM st, serM n st, st.last⟩
/-- a space -/
def SpAt (w : World) (lo hi : Nat) (s : Nat → Nat) (n cap : Nat) (st : Sp) : Prop := RawAt w lo hi s n cap (rawOf n st) ∧ Inv n st
theorem SpAt.kept {w w' : World} {lo hi n cap x y : Nat} {s : Nat → Nat} {st : Sp} (h : SpAt w lo hi s n cap st) (o : Out x y w w') (hd : hi ≤ x ∨ y ≤ lo) (hg : 4 ≤ x ∨ y = 0) : SpAt w' lo hi s n cap st := ⟨h.1.kept o hd hg, h.2⟩
theorem SpAt.quiet {w w' : World} {lo hi n cap : Nat} {s : Nat → Nat} {st : Sp} (h : SpAt w lo hi s n cap st) (o : Out 0 0 w w') : SpAt w' lo hi s n cap st := ⟨h.1.quiet o, h.2⟩
end Go.Proofs.YtjbbkeoolodeaaaGreatDoor
namespace Go.Proofs.YtjbbkeoolodeaaaGreatDoor
open Go.RowKit
set_option linter.unusedVariables false
set_option linter.unusedSimpArgs false

theorem zero_block (w : World) : (zeroValue 92).run Tryz.prog w = .ok (.agg #[.int .i64 0, .int .i64 0, .int .i64 0, .int .i64 0, .int .i64 0]) w := by kernel_rfl
theorem zero_int (w : World) : (zeroValue 3).run Tryz.prog w = .ok (.int .i64 0) w := by kernel_rfl
theorem infoB (a b c d e : Int) : (Tryz.prog.info? 92).map (·.size) = some (#[Value.int .i64 a, .int .i64 b, .int .i64 c, .int .i64 d, .int .i64 e]).size := by
  rw [show (#[Value.int .i64 a, .int .i64 b, .int .i64 c, .int .i64 d, .int .i64 e]).size = 5 from rfl]; kernel_rfl
theorem infoF (a b : Int) : (Tryz.prog.info? 50).map (·.size) = some (#[Value.int .i64 a, .int .i64 b]).size := by
  rw [show (#[Value.int .i64 a, .int .i64 b]).size = 2 from rfl]; kernel_rfl
def fltV (e a : Int) : Value := .agg #[.int .i64 e, .int .i64 a]
theorem retBlk2 {fn : Func} {p u : Tmp} {a : Act} {w : World} {g : Nat} {x1 x2 x3 x4 x5 : Int} {v : Value} {post : Ending → World → Prop} (hr : fn.results = #[.cell p 92, .tmp u]) (hp : a.tmps.getD p undef = .pointer (some ⟨g, 0, none⟩)) (hu : a.tmps.getD u undef = v)
    (hd : a.defers = []) (hg : w.heap[g]? = some (.cells #[.int .i64 x1, .int .i64 x2, .int .i64 x3, .int .i64 x4, .int .i64 x5] 92 (0, 0))) (h : post (.returned (.tuple #[.agg #[.int .i64 x1, .int .i64 x2, .int .i64 x3, .int .i64 x4, .int .i64 x5], v])) w) : bodyPost Tryz.prog fn post Exit.ret a w := by
  refine bodyPost_ret (v := .tuple #[.agg #[.int .i64 x1, .int .i64 x2, .int .i64 x3, .int .i64 x4, .int .i64 x5], v]) ?_ hd h
  rw [results_cell_tmp hr, hp]
  simp [asAddr, run_loadVar_row w g 92 92 _ (0, 0) _ hg Tryz.underlying92 rfl (infoB x1 x2 x3 x4 x5), Result.andThen]
  simpa using hu
theorem Out.drewN {lo hi : Nat} {a w : World} (h : Out lo hi a w) (m : Nat) : Out lo hi a (w.drewN m) := ⟨h.1, h.2.1, h.2.2.1, h.size, h.2.2.2.2⟩
theorem two_first {w : World} {o o2 : Obj} : ((w.alloc o).alloc o2).heap[w.heap.size]? = some o := by
  rw [Below.heap_alloc _ _ _ (by simp)]
  exact heap_alloc_new _ _
theorem self_any (b : Nat) (w : World) : Calls Tryz.prog 44 #[.pointer (some ⟨b, 0, none⟩)] w fun e w' => e = .returned (.pointer (some ⟨b, 0, none⟩)) ∧ w' = w := by
  go_enter Tryz.func44, Tryz.ntmps44
  go_wp2
  go_ret
  exact ⟨rfl, rfl⟩
section
variable {w : World} {lo hi n cap : Nat} {s : Nat → Nat} {r : Raw}
theorem spWords_any (h : RawAt w lo hi s n cap r) : Calls Tryz.prog 15 #[.pointer (some ⟨s 14, 0, none⟩)] w fun e w' => e = .returned (.int .i64 ((64 * n : Nat) : Int)) ∧ w' = w := by
  obtain ⟨c0, c1, c2, c3, c4, c5⟩ := h.cells
  clear h
  go_enter Tryz.func15, Tryz.ntmps15
  go_wp2_with (go_at_call 44; refine calls_same (self_any _ _) ?_)
  go_ret
  exact ⟨rfl, rfl⟩
theorem spHas_any (h : RawAt w lo hi s n cap r) (a : Int) : Calls Tryz.prog 50 #[.pointer (some ⟨s 14, 0, none⟩), .int .i64 a] w fun e w' => e = .returned (.bool (inB (64 * n) a)) ∧ w' = w := by
  have HW := hid_mk (spWords_any h)
  have h2 := h.n2
  generalize 64 * n = m at *
  clear h
  unfold inB
  by_cases h0 : 0 ≤ a
  · go_enter Tryz.func50, Tryz.ntmps50
    go_wp2_with (go_at_call 15; refine calls_same HW.out ?_)
    go_ret
    exact ⟨ret_bool (by simp [h0]), rfl⟩
  · have h0' : a < 0 := by omega
    go_enter Tryz.func50, Tryz.ntmps50
    go_wp2_with (go_at_call 15; refine calls_same HW.out ?_)
    go_ret
    exact ⟨ret_bool (by simp [h0]; try omega), rfl⟩
def peekV (n : Nat) (W : Nat → Int) (a : Int) : Int := if inB (64 * n) a then W a.toNat else 0
theorem peek_any (h : RawAt w lo hi s n cap r) (a : Int) : Calls Tryz.prog 18 #[.pointer (some ⟨s 14, 0, none⟩), .int .i64 a] w fun e w' => e = .returned (.tuple #[.int .i64 (peekV n r.W a), .bool (inB (64 * n) a)]) ∧ w' = w := by
  have HH := hid_mk (spHas_any h a)
  obtain ⟨c0, c1, c2, c3, c4, c5⟩ := h.cells
  have h2 := h.n2
  by_cases hi' : inB (64 * n) a = true
  · obtain ⟨k, rfl, hk, hk2⟩ := inB_nat hi'
    have hc := h.words.cell hk
    have hv : peekV n r.W (k : Int) = r.W k := by unfold peekV; rw [if_pos hi', hk2]
    have b1 : (0 : Int) ≤ (k : Int) := by omega
    have b2 : (k : Int) < ((64 * n : Nat) : Int) := by omega
    have b3 : ((64 * n : Nat) : Int) ≤ 262144 := by omega
    rw [hi'] at HH ⊢
    rw [hv]
    generalize r.W k = v at *
    generalize 64 * n = m at *
    clear h hv hi' hk hk2 h2
    go_enter Tryz.func18, Tryz.ntmps18
    go_wp2_with (go_at_call 50; refine calls_same HH.out ?_)
    go_ret2
    exact ⟨rfl, rfl⟩
  · have hf : inB (64 * n) a = false := by simpa using hi'
    have hv : peekV n r.W a = 0 := by unfold peekV; rw [hf]; rfl
    rw [hf] at HH ⊢
    rw [hv]
    clear h hv hi'
    go_enter Tryz.func18, Tryz.ntmps18
    go_wp2_with (go_at_call 50; refine calls_same HH.out ?_)
    go_ret2
    exact ⟨rfl, rfl⟩
theorem Row.upd {w : World} {b k : Nat} {T : TypeId} {W : Nat → Int} (h : Row w b T k (fun i => .int .i64 (W i))) (a : Nat) (v : Int) : Row (w.setCell ⟨b, a, none⟩ (.int .i64 v)) b T k (fun i => .int .i64 (updW W a v i)) :=
  (h.set a (.int .i64 v)).congr fun i _ => by unfold updW; split <;> rfl
theorem RawAt.poke (h : RawAt w lo hi s n cap r) (a : Nat) (v : Int) : RawAt (w.setCell ⟨s 11, a, none⟩ (.int .i64 v)) lo hi s n cap { r with W := updW r.W a v } ∧ Out (s 11) (s 11 + 1) w (w.setCell ⟨s 11, a, none⟩ (.int .i64 v)) := by
  have o : Out (s 11) (s 11 + 1) w (w.setCell ⟨s 11, a, none⟩ (.int .i64 v)) := (Out.refl _ _ _).setCell (.inl ⟨Nat.le_refl _, Nat.lt_succ_self _⟩) _
  exact ⟨h.setW o (h.words.upd a v), o⟩
theorem RawAt.look (h : RawAt w lo hi s n cap r) (c : Bool) (a : Int) : (Instr.lookup 79 (.map (some (s 12))) (.int .i64 a) c).run Tryz.prog w =
    .ok (if c then .tuple #[(mapM r.M a).getD (.agg #[.int .i64 0, .int .i64 0, .int .i64 0, .int .i64 0, .int .i64 0]), .bool (mapM r.M a).isSome] else (mapM r.M a).getD (.agg #[.int .i64 0, .int .i64 0, .int .i64 0, .int .i64 0, .int .i64 0])) w :=
  mp_look c Tryz.underlying79 Tryz.underlying3 (zero_block w) h.objs a
theorem RawAt.find (h : RawAt w lo hi s n cap r) (c : Bool) (a : Int) : (Instr.lookup 82 (.map (some (s 13))) (.int .i64 a) c).run Tryz.prog w =
    .ok (if c then .tuple #[(mapR r.R a).getD (.int .i64 0), .bool (mapR r.R a).isSome] else (mapR r.R a).getD (.int .i64 0)) w :=
  mp_look c Tryz.underlying82 Tryz.underlying3 (zero_int w) h.sers a
set_option maxHeartbeats 1000000 in
theorem headed_any (h : RawAt w lo hi s n cap r) {a : Nat} (ha : a < 64 * n) (k z x t : Int) : Calls Tryz.prog 102 #[.pointer (some ⟨s 14, 0, none⟩), .agg #[.int .i64 (a : Int), .int .i64 k, .int .i64 z, .int .i64 x, .int .i64 t]] w fun e w' => e = .returned (.bool (r.W a == makeV a k z)) ∧ Out 0 0 w w' := by
  have h' := h.quiet ((Out.refl 0 0 w).alloc (.cells #[.int .i64 (a : Int), .int .i64 k, .int .i64 z, .int .i64 x, .int .i64 t] 92))
  obtain ⟨c0, c1, c2, c3, c4, c5⟩ := h'.cells
  have h2 := h.n2
  have hc := h'.words.cell ha
  have b1 : (0 : Int) ≤ (a : Int) := by omega
  have b2 : (a : Int) < ((64 * n : Nat) : Int) := by omega
  have b3 : ((64 * n : Nat) : Int) ≤ 262144 := by omega
  have HM := hid_mk (fun w => hmake_any (a : Int) k z w)
  generalize makeV (a : Int) k z = mv at *
  generalize r.W a = u at *
  generalize 64 * n = m at *
  clear h h' ha h2
  go_enter Tryz.func102, Tryz.ntmps102
  go_wp2_with fail
  go_quiet (first | (go_at_call 98; exact Calls.quiet_of_same (HM.out _)))
  go_wp2
  go_ret
  exact ⟨rfl, ((Out.refl 0 0 w).alloc _).drewN _⟩
end
end Go.Proofs.YtjbbkeoolodeaaaGreatDoor
