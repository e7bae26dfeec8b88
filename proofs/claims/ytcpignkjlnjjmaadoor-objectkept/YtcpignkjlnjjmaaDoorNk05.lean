import Derived.Test.YtcpignkjlnjjmaaDoorNk02
import Derived.Test.YtcpignkjlnjjmaaDoorNk04
import Derived.Test.YtcpignkjlnjjmaaDoorNk00
import Derived.Maps.OwnSet
namespace Go.Proofs.YtcpignkjlnjjmaaDoor
open Go.RowKit
set_option linter.unusedVariables false
set_option linter.unusedSimpArgs false

theorem rowF_pages {S : Nat → Int × Int × Int} {n k p : Nat} (hg : Good n S) (h : rowF S n k = some p) : p < n ∧ p + k ≤ n ∧ ∀ j, p ≤ j → j < p + k → S j = (0, 0, 0) := by
  obtain ⟨h1, h2, h3, _⟩ := rowF_some h
  exact ⟨h1, h2, fun j j1 j2 => hg.free (by omega) (allF_iff.1 h3 j j1 j2)⟩
theorem setC_eq (S : Nat → Int × Int × Int) (p : Nat) (c : Int) : setC S p c = setP S p (1, c, 0) := rfl
theorem setR_eq (S : Nat → Int × Int × Int) (p k : Nat) (h : 1 ≤ k) : setR S p k = putA (setP S p (2, 0, (k : Int))) (p + 1) (k - 1) (3, 0, 0) := by
  funext j
  unfold setR putA setP
  by_cases e : j = p
  · rw [if_pos e, if_neg (by omega), if_pos e]
  · rw [if_neg e]
    by_cases h2 : p < j ∧ j < p + k
    · rw [if_pos h2, if_pos (by omega)]
    · rw [if_neg h2, if_neg (by omega), if_neg e]
theorem setF_eq (S : Nat → Int × Int × Int) (p k : Nat) : setF S p k = putA S p k (0, 0, 0) := rfl
set_option maxRecDepth 100000 in
set_option maxHeartbeats 4000000 in
theorem takeClass_any {w : World} {b bw n : Nat} {S : Nat → Int × Int × Int} (h : TblAt 102 w b bw n S) (hT : Tab w) (c : Int) :
    Calls Tryd.prog 85 #[.pointer (some ⟨b, 0, none⟩), .int .i64 c] w fun e w' => e = .returned (.tuple #[.int .i64 (tcP S n c : Nat), .int .i64 (tcE S n c)]) ∧ TblAt 102 w' b bw n (tcS S n c) ∧ Out bw (bw + 1) w w' := by
  have hn := h.nums
  have HW := hid_mk (words_any c w)
  have HH := hid_mk h
  have HT := hid_mk hT
  by_cases hc : classB c = true
  · rw [hc] at HW
    unfold tcP tcE tcS
    rw [if_pos hc, if_pos hc, if_pos hc]
    have HR : Hid (∀ w', Out 0 0 w w' → Calls Tryd.prog 81 #[.pointer (some ⟨b, 0, none⟩), .int .i64 1] w' fun e w' => e = .returned (.tuple #[.int .i64 ((rowF S n 1).getD 0 : Nat), .bool (rowF S n 1).isSome]) ∧ Out 0 0 w w') := fun w' ho => by
      obtain ⟨cap, c0, _⟩ := (HH.out.quiet ho).cell
      exact (row_any c0 (HT.out.quiet ho) ⟨hn.1, hn.2.1⟩ (HH.out.quiet ho).row HH.out.good 1 (by omega) (by omega)).mono fun e w' ⟨a, b⟩ => ⟨a, ho.trans b⟩
    cases hf : rowF S n 1 with
    | none =>
      rw [hf] at HR
      clear hn h hT hc hf
      go_enter Tryd.func85, Tryd.ntmps85
      go_wp2_with (first | (go_at_call 80; refine HW.out.mono ?_; rintro e w1 ⟨v, rfl, hv, ho⟩; have HO := hid_mk ho; have hv2 : (v == 0) = false := hv; clear hv ho) | (go_at_call 81; refine (HR.out _ HO.out).mono ?_; rintro e w2 ⟨rfl, ho⟩))
      go_ret2
      exact ⟨rfl, HH.out.quiet ho, ho.any _ _⟩
    | some p =>
      rw [hf] at HR
      obtain ⟨p1, p2, p3⟩ := rowF_pages HH.out.good hf
      have p4 := p3 p (Nat.le_refl _) (by omega)
      have HG := hid_mk (good_setC HH.out.good p4 (by unfold classB at hc; simp at hc; exact hc.1) (by unfold classB at hc; simp at hc; exact hc.2))
      have b0 : (0 : Int) ≤ (p : Int) := by omega
      have b1 : (p : Int) < (n : Int) := by omega
      have b2 : (n : Int) ≤ 4096 := by omega
      have HP := hid_mk p1
      have HP4 := hid_mk p4
      clear hn h hT hc hf p1 p2 p3 p4
      go_enter Tryd.func85, Tryd.ntmps85
      go_wp2_with (first | (go_at_call 80; refine HW.out.mono ?_; rintro e w1 ⟨v, rfl, hv, ho⟩; have HO := hid_mk ho; have hv2 : (v == 0) = false := hv; clear hv ho) | (go_at_call 81; refine (HR.out _ HO.out).mono ?_; rintro e w2 ⟨rfl, ho⟩; obtain ⟨cap, c0, hcap⟩ := (HH.out.quiet ho).cell; obtain ⟨q0, q1, q2⟩ := (HH.out.quiet ho).row.page HP.out HP4.out; have fz0 := Row.frozen (HH.out.quiet ho).row (p * 3); have fz1 := Row.frozen (HH.out.quiet ho).row (p * 3 + 1); have fz2 := Row.frozen (HH.out.quiet ho).row (p * 3 + 2); have HO2 := hid_mk ho; clear ho))
      go_ret2
      have hr := (HH.out.quiet HO2.out).row.set p 1 c 0
      have ho3 : Out bw (bw + 1) w (((w2.setCell ⟨bw, p * 3, none⟩ (.int .i64 1)).setCell ⟨bw, p * 3 + 1, none⟩ (.int .i64 c)).setCell ⟨bw, p * 3 + 2, none⟩ (.int .i64 0)) := (HO2.out.any _ _).set3 (.inl ⟨Nat.le_refl _, Nat.lt_succ_self _⟩) _ _ _
      exact ⟨rfl, HH.out.turn ho3 hr HG.out, ho3⟩
  · have hc' : classB c = false := by simpa using hc
    rw [hc'] at HW
    unfold tcP tcE tcS
    rw [if_neg hc, if_neg hc, if_neg hc]
    clear hn h hT hc hc'
    go_enter Tryd.func85, Tryd.ntmps85
    go_wp2_with (go_at_call 80; refine HW.out.mono ?_; rintro e w1 ⟨v, rfl, hv, ho⟩; have HO := hid_mk ho; have hv2 : (v == 0) = true := hv; clear hv ho)
    go_ret2
    exact ⟨rfl, HH.out.quiet HO.out, HO.out.any _ _⟩
end Go.Proofs.YtcpignkjlnjjmaaDoor
namespace Go.Proofs.YtcpignkjlnjjmaaDoor
open Go.RowKit
set_option linter.unusedVariables false
set_option linter.unusedSimpArgs false

theorem inv_take {n : Nat} {st : Sp} {a : Nat} {kd s t : Int} {W' : Nat → Int} {S' : Nat → Int × Int × Int} (hi : Inv n st) (ha : hasB (st.O a) = false) (hf : fitsB kd s = true) (hg : Good n S')
    (hnew : ObOk n S' a (kd, s, serOf st kd, t)) (hold : ∀ b, b ≠ a → hasB (st.O b) = true → ObOk n S' b (st.O b)) (hh : ∀ q, q < n → (S' q).1 = 2 → 64 * q = a ∨ hasB (st.O (64 * q)) = true) :
    Inv n ⟨W', S', putO st.O a (kd, s, serOf st kd, t), lastOf st kd⟩ := by
  have hk := fits_size hf
  have hb : hasB (kd, s, serOf st kd, t) = true := by unfold hasB; simp; omega
  have hl : st.last ≤ lastOf st kd := by unfold lastOf; split <;> omega
  have hput : ∀ i, i ≠ a → putO st.O a (kd, s, serOf st kd, t) i = st.O i := fun i e => by unfold putO; rw [if_neg e]
  have hput' : putO st.O a (kd, s, serOf st kd, t) a = (kd, s, serOf st kd, t) := by unfold putO; rw [if_pos rfl]
  refine ⟨hi.n1, hi.n2, hg, ?_, ?_, ?_, ?_, ?_, ?_⟩
  · intro i h
    show ObOk n S' i (putO st.O a (kd, s, serOf st kd, t) i)
    by_cases e : i = a
    · subst e; rw [hput']; exact hnew
    · have h' : hasB (putO st.O a (kd, s, serOf st kd, t) i) = true := h
      rw [hput i e] at h' ⊢; exact hold i e h'
  · intro i h
    have h' : hasB (putO st.O a (kd, s, serOf st kd, t) i) = false := h
    show putO st.O a (kd, s, serOf st kd, t) i = noB
    by_cases e : i = a
    · subst e; rw [hput', hb] at h'; cases h'
    · rw [hput i e] at h' ⊢; exact hi.none i h'
  · intro q hq h2
    show hasB (putO st.O a (kd, s, serOf st kd, t) (64 * q)) = true
    rcases hh q hq h2 with e | e
    · rw [e, hput']; exact hb
    · by_cases e' : 64 * q = a
      · rw [e', hput']; exact hb
      · rw [hput _ e']; exact e
  · show 0 ≤ lastOf st kd
    have := hi.last0; omega
  · intro i h
    have h' : hasB (putO st.O a (kd, s, serOf st kd, t) i) = true := h
    show (numB (putO st.O a (kd, s, serOf st kd, t) i).1 = true → 1 ≤ (putO st.O a (kd, s, serOf st kd, t) i).2.2.1 ∧ (putO st.O a (kd, s, serOf st kd, t) i).2.2.1 ≤ lastOf st kd) ∧ (numB (putO st.O a (kd, s, serOf st kd, t) i).1 = false → (putO st.O a (kd, s, serOf st kd, t) i).2.2.1 = 0)
    by_cases e : i = a
    · subst e
      rw [hput']
      refine ⟨fun hn => ?_, fun hn => ?_⟩
      · have hn' : numB kd = true := hn
        show 1 ≤ serOf st kd ∧ serOf st kd ≤ lastOf st kd
        unfold serOf lastOf
        rw [if_pos hn', if_pos hn']
        have := hi.last0; omega
      · have hn' : numB kd = false := hn
        show serOf st kd = 0
        unfold serOf
        rw [if_neg (by simp [hn'])]
    · rw [hput i e] at h' ⊢
      have := hi.ser i h'
      exact ⟨fun hn => ⟨(this.1 hn).1, by have := (this.1 hn).2; omega⟩, this.2⟩
  · intro i j h1 h2 h3 h4
    have h1' : hasB (putO st.O a (kd, s, serOf st kd, t) i) = true := h1
    have h2' : hasB (putO st.O a (kd, s, serOf st kd, t) j) = true := h2
    have h3' : 1 ≤ (putO st.O a (kd, s, serOf st kd, t) i).2.2.1 := h3
    have h4' : (putO st.O a (kd, s, serOf st kd, t) i).2.2.1 = (putO st.O a (kd, s, serOf st kd, t) j).2.2.1 := h4
    have old : ∀ x, hasB (st.O x) = true → (st.O x).2.2.1 = serOf st kd → 1 ≤ serOf st kd → False := by
      intro x hx e1 e2
      have hs := hi.ser x hx
      unfold serOf at e1 e2
      by_cases hn : numB kd = true
      · rw [if_pos hn] at e1
        cases hx1 : numB (st.O x).1 with
        | true => have := (hs.1 hx1).2; omega
        | false => have := hs.2 hx1; have := hi.last0; omega
      · rw [if_neg hn] at e2; omega
    by_cases e : i = a
    · by_cases e' : j = a
      · rw [e, e']
      · exfalso
        subst e
        rw [hput', hput j e'] at h4'
        rw [hput'] at h3'
        rw [hput j e'] at h2'
        exact old j h2' h4'.symm h3'
    · by_cases e' : j = a
      · exfalso
        subst e'
        rw [hput', hput i e] at h4'
        rw [hput i e] at h1' h3'
        exact old i h1' h4' (show 1 ≤ serOf st kd from (show (st.O i).2.2.1 = serOf st kd from h4') ▸ h3')
      · rw [hput i e] at h1' h3' h4'
        rw [hput j e'] at h2' h4'
        exact hi.one i j h1' h2' h3' h4'
theorem run_k {s : Int} (h1 : 32 < s) (h2 : s ≤ 1024) : 1 ≤ ((s + 63) / 64).toNat ∧ ((s + 63) / 64).toNat ≤ 16 ∧ (((s + 63) / 64).toNat : Int) = (s + 63) / 64 := by omega
/-- an object's page is one of a class or a run's first -/
theorem ObOk.page {n a : Nat} {S : Nat → Int × Int × Int} {b : Blk} (h : ObOk n S a b) : a / 64 < n ∧ ((S (a / 64)).1 = 1 ∨ (S (a / 64)).1 = 2) := by
  obtain ⟨h1, _, h3⟩ := h
  refine ⟨by omega, ?_⟩
  rcases h3 with ⟨_, e, _⟩ | ⟨_, _, e⟩
  · rw [e]; exact .inl rfl
  · rw [e]; exact .inr rfl
theorem ObOk.same {n a : Nat} {S S' : Nat → Int × Int × Int} {b : Blk} (h : ObOk n S a b) (e : S' (a / 64) = S (a / 64)) : ObOk n S' a b := by
  obtain ⟨h1, h2, h3⟩ := h
  exact ⟨h1, h2, by rw [e]; exact h3⟩
/-- a great one -/
theorem take_run {n p : Nat} {st : Sp} {kd s t : Int} (hi : Inv n st) (hf : fitsB kd s = true) (h32 : 32 < s) (hr : rowF st.S n ((s + 63) / 64).toNat = some p) :
    Inv n (takeF n st (64 * p) false kd s t) ∧ (∀ c, fr n (takeF n st (64 * p) false kd s t) c = fr n st c) ∧ hasB (st.O (64 * p)) = false ∧ p + ((s + 63) / 64).toNat ≤ n := by
  obtain ⟨k1, k2, k3⟩ := run_k h32 (fits_size hf).2.2.2
  obtain ⟨p1, p2, p3⟩ := rowF_pages hi.good hr
  generalize hk : ((s + 63) / 64).toNat = k at *
  have hfree : ∀ a, hasB (st.O a) = true → a / 64 < p ∨ p + k ≤ a / 64 := by
    intro a ha
    have := (hi.objs a ha).page
    by_cases e : a / 64 < p ∨ p + k ≤ a / 64
    · exact e
    · have e1 := p3 (a / 64) (by omega) (by omega)
      rw [e1] at this
      simp at this
  have hS' : takeS st (64 * p) false s = setR st.S p k := by
    unfold takeS
    rw [if_pos h32, hk, show 64 * p / 64 = p from by omega]
  have out : ∀ j, (j < p ∨ p + k ≤ j) → setR st.S p k j = st.S j := by
    intro j hj
    unfold setR
    rw [if_neg (by omega), if_neg (by omega)]
  have hd : setR st.S p k p = (2, 0, (k : Int)) := by unfold setR; rw [if_pos rfl]
  have hrst : ∀ j, p < j → j < p + k → setR st.S p k j = (3, 0, 0) := by
    intro j a b
    unfold setR
    rw [if_neg (by omega), if_pos ⟨a, b⟩]
  have hno : hasB (st.O (64 * p)) = false := by
    cases e : hasB (st.O (64 * p)) with
    | false => rfl
    | true => have := hfree _ e; omega
  refine ⟨?_, ?_, hno, p2⟩
  · have := inv_take (W' := (takeF n st (64 * p) false kd s t).W) (S' := takeS st (64 * p) false s) (t := t) hi hno hf
      (by rw [hS']; exact good_setR hi.good p3 k1 k2 p2)
      (by rw [hS']; exact ⟨by omega, hf, .inr ⟨h32, by omega, by rw [show 64 * p / 64 = p from by omega, hd, ← k3]⟩⟩)
      (fun b _ hb => by rw [hS']; exact (hi.objs b hb).same (out _ (hfree b hb)))
      (fun q hq h2 => by
        rw [hS'] at h2
        by_cases e : q = p
        · left; omega
        · right
          by_cases e' : p < q ∧ q < p + k
          · rw [hrst q e'.1 e'.2] at h2; simp at h2
          · rw [out q (by omega)] at h2; exact hi.heads q hq h2)
    exact this
  · intro c
    funext i
    unfold fr
    show (decide (i < 64 * n) && (takeS st (64 * p) false s (i / 64) == (1, c, 0)) && startB c (i % 64) && !hasB (putO st.O (64 * p) (kd, s, serOf st kd, t) i)) = _
    rw [hS']
    by_cases e : i / 64 < p ∨ p + k ≤ i / 64
    · rw [out _ e]
      have : putO st.O (64 * p) (kd, s, serOf st kd, t) i = st.O i := by unfold putO; rw [if_neg (by omega)]
      rw [this]
    · have e1 := p3 (i / 64) (by omega) (by omega)
      have e2 : (setR st.S p k (i / 64) == (1, c, 0)) = false := by
        by_cases e3 : i / 64 = p
        · rw [e3, hd]; simp
        · rw [hrst _ (by omega) (by omega)]; simp
      rw [e2, e1]
      simp
/-- a small one, in a free block -/
theorem take_block {n a : Nat} {st : Sp} {kd s t : Int} (hi : Inv n st) (hf : fitsB kd s = true) (h32 : s ≤ 32) (ha : fr n st (ofV s) a = true) :
    Inv n (takeF n st a false kd s t) ∧ (∀ c, fr n (takeF n st a false kd s t) c = upd (fr n st c) a false) ∧ (∀ c, c ≠ ofV s → fr n st c a = false) := by
  obtain ⟨h1, h2, h3, h4⟩ := fr_iff.1 ha
  have hk := fits_size hf
  have hS' : takeS st a false s = st.S := by unfold takeS; rw [if_neg (by omega)]; simp
  refine ⟨?_, ?_, ?_⟩
  · have := inv_take (W' := (takeF n st a false kd s t).W) (S' := takeS st a false s) (t := t) hi h4 hf (by rw [hS']; exact hi.good)
      (by rw [hS']; exact ⟨h1, hf, .inl ⟨h32, h2, h3⟩⟩) (fun b _ hb => by rw [hS']; exact hi.objs b hb) (fun q hq h2 => by rw [hS'] at h2; exact .inr (hi.heads q hq h2))
    exact this
  · intro c
    funext i
    unfold fr
    show (decide (i < 64 * n) && (takeS st a false s (i / 64) == (1, c, 0)) && startB c (i % 64) && !hasB (putO st.O a (kd, s, serOf st kd, t) i)) = _
    rw [hS']
    unfold upd putO
    by_cases e : i = a
    · rw [if_pos e, if_pos e]
      have : hasB (kd, s, serOf st kd, t) = true := by unfold hasB; simp; omega
      rw [this]; simp
    · rw [if_neg e, if_neg e]
  · intro c hc
    cases e : fr n st c a with
    | false => rfl
    | true =>
      have := (fr_iff.1 e).2.1
      rw [h2] at this
      simp at this
      exact absurd this.symm hc
/-- a small one, in a page that its class takes -/
theorem take_fresh {n p : Nat} {st : Sp} {kd s t : Int} (hi : Inv n st) (hf : fitsB kd s = true) (h32 : s ≤ 32) (hr : rowF st.S n 1 = some p) :
    Inv n (takeF n st (64 * p) true kd s t) ∧ (∀ c i, fr n (takeF n st (64 * p) true kd s t) c i = if i / 64 = p then (decide (c = ofV s) && startB c (i % 64) && decide (i ≠ 64 * p)) else fr n st c i) ∧ (∀ a, a / 64 = p → hasB (st.O a) = false) ∧ p < n ∧ st.S p = (0, 0, 0) := by
  obtain ⟨p1, p2, p3⟩ := rowF_pages hi.good hr
  have hk := fits_size hf
  have hc := of_small hk.2.2.1 h32
  have hS' : takeS st (64 * p) true s = setC st.S p (ofV s) := by
    unfold takeS
    rw [if_neg (by omega), if_pos rfl, show 64 * p / 64 = p from by omega]
  have hp0 := p3 p (by omega) (by omega)
  have hno : ∀ a, a / 64 = p → hasB (st.O a) = false := by
    intro a hap
    cases e : hasB (st.O a) with
    | false => rfl
    | true =>
      have := (hi.objs a e).page
      rw [hap, hp0] at this
      simp at this
  have out : ∀ j, j ≠ p → setC st.S p (ofV s) j = st.S j := fun j hj => by unfold setC; rw [if_neg hj]
  have hin : setC st.S p (ofV s) p = (1, ofV s, 0) := by unfold setC; rw [if_pos rfl]
  refine ⟨?_, ?_, hno, p1, hp0⟩
  · have := inv_take (W' := (takeF n st (64 * p) true kd s t).W) (S' := takeS st (64 * p) true s) (t := t) hi (hno (64 * p) (by omega)) hf (by rw [hS']; exact good_setC hi.good hp0 hc.1 hc.2.1)
      (by
        rw [hS']
        refine ⟨by omega, hf, .inl ⟨h32, by rw [show 64 * p / 64 = p from by omega, hin], ?_⟩⟩
        have hw := wN_pos hc.1 hc.2.1
        show startB (ofV s) (64 * p % 64) = true
        rw [show 64 * p % 64 = 0 from by omega]
        unfold startB
        simp; omega)
      (fun b _ hb => by
        rw [hS']
        refine (hi.objs b hb).same (out (b / 64) (fun e => ?_))
        rw [hno b e] at hb; cases hb)
      (fun q hq h2 => by
        rw [hS'] at h2
        by_cases e : q = p
        · left; omega
        · rw [out q e] at h2; exact .inr (hi.heads q hq h2))
    exact this
  · intro c i
    unfold fr
    show (decide (i < 64 * n) && (takeS st (64 * p) true s (i / 64) == (1, c, 0)) && startB c (i % 64) && !hasB (putO st.O (64 * p) (kd, s, serOf st kd, t) i)) = _
    rw [hS']
    by_cases e : i / 64 = p
    · rw [if_pos e, e, hin]
      have e1 : ((1, ofV s, 0) == ((1 : Int), c, (0 : Int))) = decide (c = ofV s) := by
        rw [Bool.eq_iff_iff]; simp; exact eq_comm
      rw [e1, show decide (i < 64 * n) = true from by simp; omega]
      unfold putO
      by_cases e2 : i = 64 * p
      · rw [if_pos e2]
        have : hasB (kd, s, serOf st kd, t) = true := by unfold hasB; simp; omega
        rw [this, show decide (i ≠ 64 * p) = false from by simp [e2]]
        simp
      · rw [if_neg e2, hno i e, show decide (i ≠ 64 * p) = true from by simp [e2]]
        simp
    · rw [if_neg e, out _ e]
      have : putO st.O (64 * p) (kd, s, serOf st kd, t) i = st.O i := by unfold putO; rw [if_neg (by omega)]
      rw [this]
end Go.Proofs.YtcpignkjlnjjmaaDoor
namespace Go.Proofs.YtcpignkjlnjjmaaDoor
open Go.RowKit Go.MapKept
open Go.ChangeMaps (setBlock)
set_option linter.unusedVariables false
set_option linter.unusedSimpArgs false

/-- block b is a map: at the key a 'f a' -/
def MpAt (w : World) (b : Nat) (f : Int → Option Value) : Prop :=
  ∃ es clock, w.heap[b]? = some (.map es clock) ∧ Stamped es clock ∧ (∀ x ∈ es.toList, ∃ a, x.key = .int .i64 a) ∧ ∀ a v, f a = some v ↔ ∃ x ∈ es.toList, x.key = .int .i64 a ∧ x.val = v
theorem MpAt.lt {w : World} {b : Nat} {f : Int → Option Value} (h : MpAt w b f) : b < w.heap.size := by
  obtain ⟨es, clock, hb, _⟩ := h
  exact heap_lt hb
theorem MpAt.kept {w w' : World} {b lo hi : Nat} {f : Int → Option Value} (h : MpAt w b f) (o : Out lo hi w w') (hd : b < lo ∨ hi ≤ b) : MpAt w' b f := by
  obtain ⟨es, clock, hb, r⟩ := h
  exact ⟨es, clock, o.heap hb hd, r⟩
theorem MpAt.congr {w : World} {b : Nat} {f g : Int → Option Value} (h : MpAt w b f) (e : ∀ a, f a = g a) : MpAt w b g := by
  have : f = g := funext e
  rw [← this]; exact h
theorem mp_new (w : World) : MpAt (w.alloc (.map #[] 0)) w.heap.size (fun _ => none) :=
  ⟨#[], 0, (heap_alloc w _).1, stamped_empty 0, by simp, by simp⟩
theorem MpAt.isKeys {es : Array MapEntry} (h : ∀ x ∈ es.toList, ∃ a, x.key = .int .i64 a) : ∀ x ∈ es.toList, IsKey (.int .i64) x.key := fun x hx => by
  obtain ⟨a, e⟩ := h x hx
  rw [e]; exact rfl
section
variable {P : Program} {w : World} {t k e : TypeId} {b : Nat} {f : Int → Option Value}
theorem mp_look (c : Bool) (ht : P.underlying t = some (.map k e)) (hk : P.underlying k = some (.int .i64)) {z : Value} (hz : (zeroValue e).run P w = .ok z w) (h : MpAt w b f) (a : Int) :
    (Instr.lookup t (.map (some b)) (.int .i64 a) c).run P w = .ok (if c then .tuple #[(f a).getD z, .bool (f a).isSome] else (f a).getD z) w := by
  obtain ⟨es, clock, hb, hs, hks, hf⟩ := h
  have ik : IsKey (.int .i64) (.int .i64 a) := rfl
  rcases findNow_spec ik es.toList 0 (MpAt.isKeys hks) with ⟨h1, h2⟩ | ⟨j, e0, h1, h2, h3⟩
  · have hn : f a = none := by
      cases hfa : f a with
      | none => rfl
      | some v =>
        obtain ⟨x, hx, hxk, _⟩ := (hf a v).1 hfa
        exact absurd hxk (h2 x hx)
    simp [Instr.lookup, run_underlying ht, MapKept.run_getObj_map hb, run_checkKey hk ik, run_findKey hk h1, hz, hn, Result.andThen]
  · have hv : f a = some e0.val := (hf a _).2 ⟨e0, List.mem_of_getElem? h2, h3, rfl⟩
    simp [Instr.lookup, run_underlying ht, MapKept.run_getObj_map hb, run_checkKey hk ik, run_findKey hk h1, hv, Result.andThen]
theorem out_setBlock {es : Array MapEntry} {clock : Nat} (hb : w.heap[b]? = some (.map es clock)) (o : Obj) : Out b (b + 1) w { w with heap := w.heap.setIfInBounds b o } :=
  ⟨rfl, rfl, rfl, by simp, fun j h1 h2 => (heap_set (o' := o) hb).2 j (by omega)⟩
theorem mp_put (ht : P.underlying t = some (.map k e)) (hk : P.underlying k = some (.int .i64)) (h : MpAt w b f) (a : Int) (v : Value) :
    ∃ w', (Instr.mapUpdate t (.map (some b)) (.int .i64 a) v).run P w = .ok () w' ∧ MpAt w' b (fun x => if x = a then some v else f x) ∧ Out b (b + 1) w w' := by
  obtain ⟨es, clock, hb, hs, hks, hf⟩ := h
  have ik : IsKey (.int .i64) (.int .i64 a) := rfl
  rcases findNow_spec ik es.toList 0 (MpAt.isKeys hks) with ⟨h1, h2⟩ | ⟨j, e0, h1, h2, h3⟩
  · refine ⟨_, by simp [Instr.mapUpdate, run_underlying ht, MapKept.run_getObj_map hb, run_checkKey hk ik, run_findKey hk h1, MapKept.run_setObj_map _ hb, Result.andThen]; rfl, ⟨_, _, (heap_set hb).1, stamped_push hs h2, ?_, ?_⟩, out_setBlock hb _⟩
    · intro x hx
      simp only [Array.toList_push, List.mem_append, List.mem_singleton] at hx
      rcases hx with hx | rfl
      · exact hks x hx
      · exact ⟨a, rfl⟩
    · intro a' v'
      show (if a' = a then some v else f a') = some v' ↔ _
      by_cases ea : a' = a
      · subst ea
        rw [if_pos rfl]
        constructor
        · intro hv
          cases hv
          exact ⟨⟨_, _, clock⟩, by simp, rfl, rfl⟩
        · rintro ⟨x, hx, hxk, rfl⟩
          simp only [Array.toList_push, List.mem_append, List.mem_singleton] at hx
          rcases hx with hx | rfl
          · exact absurd hxk (h2 x hx)
          · rfl
      · rw [if_neg ea, hf]
        constructor
        · rintro ⟨x, hx, hxk, hxv⟩
          exact ⟨x, by simp [hx], hxk, hxv⟩
        · rintro ⟨x, hx, hxk, hxv⟩
          simp only [Array.toList_push, List.mem_append, List.mem_singleton] at hx
          rcases hx with hx | rfl
          · exact ⟨x, hx, hxk, hxv⟩
          · simp at hxk
            exact absurd hxk.symm ea
  · have hj : es[j]? = some e0 := by simpa using h2
    have hjl : j < es.toList.length := (List.getElem?_eq_some_iff.1 h2).1
    have hkey : ∀ e', es[j]? = some e' → ({ e' with key := .int .i64 a, val := v } : MapEntry).key = e'.key := fun e' he' => by rw [hj] at he'; cases he'; exact h3.symm
    have hlist : (es.modify j (fun e' => { e' with key := .int .i64 a, val := v })).toList = es.toList.set j { e0 with key := .int .i64 a, val := v } := by rw [Array.toList_modify, ChangeMaps.modify_eq_set _ _ _ _ h2]
    have hapart : ∀ x ∈ es.toList, x.key = .int .i64 a → x = e0 := by
      intro x hx hxk
      obtain ⟨i, hi, rfl⟩ := List.getElem_of_mem hx
      by_cases e1 : i = j
      · subst e1
        rw [List.getElem?_eq_getElem hi] at h2
        exact Option.some.inj h2
      · have hp := ((stamped_iff es clock).1 hs).2.2
        rw [List.pairwise_iff_getElem] at hp
        rw [List.getElem?_eq_getElem hjl] at h2
        have h2' := Option.some.inj h2
        rcases Nat.lt_or_gt_of_ne e1 with hlt | hlt
        · exact absurd (by rw [hxk, h2', h3]) (hp i j hi hjl hlt)
        · exact absurd (by rw [hxk, h2', h3]) (hp j i hjl hi hlt)
    refine ⟨{ w with heap := w.heap.setIfInBounds b (.map (es.modify j (fun e' => { e' with key := .int .i64 a, val := v })) clock) }, by simp [Instr.mapUpdate, run_underlying ht, MapKept.run_getObj_map hb, run_checkKey hk ik, run_findKey hk h1, hj, h3, run_keyThatStays ik, MapKept.run_setObj_map _ hb, Result.andThen], ⟨es.modify j (fun e' => { e' with key := .int .i64 a, val := v }), clock, (heap_set hb).1, stamped_modify hs _ _ (fun _ _ => rfl) (fun e' _ he' => hkey e' he'), ?_, ?_⟩, out_setBlock hb _⟩
    · intro x hx
      rw [hlist] at hx
      rcases List.mem_or_eq_of_mem_set hx with hx | rfl
      · exact hks x hx
      · exact ⟨a, rfl⟩
    · intro a' v'
      rw [hlist]
      show (if a' = a then some v else f a') = some v' ↔ _
      by_cases ea : a' = a
      · subst ea
        rw [if_pos rfl]
        constructor
        · intro hv
          cases hv
          exact ⟨_, List.mem_set hjl _, rfl, rfl⟩
        · rintro ⟨x, hx, hxk, rfl⟩
          obtain ⟨i, hi, rfl⟩ := List.getElem_of_mem hx
          rw [List.getElem_set] at hxk ⊢
          by_cases e1 : j = i
          · simp [e1]
          · rw [if_neg e1] at hxk ⊢
            have hi' : i < es.toList.length := by simpa using hi
            have := hapart _ (List.getElem_mem hi') hxk
            have hp := ((stamped_iff es clock).1 hs).2.2
            rw [List.pairwise_iff_getElem] at hp
            rw [List.getElem?_eq_getElem hjl] at h2
            have h2' := Option.some.inj h2
            rcases Nat.lt_or_gt_of_ne e1 with hlt | hlt
            · exact absurd (by rw [hxk, h2', h3]) (hp j i hjl hi' hlt)
            · exact absurd (by rw [hxk, h2', h3]) (hp i j hi' hjl hlt)
      · rw [if_neg ea, hf]
        constructor
        · rintro ⟨x, hx, hxk, hxv⟩
          obtain ⟨i, hi, rfl⟩ := List.getElem_of_mem hx
          by_cases e1 : j = i
          · subst e1
            rw [List.getElem?_eq_getElem hjl] at h2
            rw [Option.some.inj h2, h3] at hxk
            simp at hxk
            exact absurd hxk.symm ea
          · refine ⟨es.toList[i], List.mem_iff_getElem.2 ⟨i, by simpa using hi, by rw [List.getElem_set, if_neg e1]⟩, hxk, hxv⟩
        · rintro ⟨x, hx, hxk, hxv⟩
          rcases List.mem_or_eq_of_mem_set hx with hx | rfl
          · exact ⟨x, hx, hxk, hxv⟩
          · simp at hxk
            exact absurd hxk.symm ea
theorem mp_del {ty : TypeId} (ht : P.underlying t = some (.map k e)) (hk : P.underlying k = some (.int .i64)) (h : MpAt w b f) (a : Int) :
    ∃ w', (Builtin.delete_ #[t, k] ty #[.map (some b), .int .i64 a]).run P w = .ok (.tuple #[]) w' ∧ MpAt w' b (fun x => if x = a then none else f x) ∧ Out b (b + 1) w w' := by
  obtain ⟨es, clock, hb, hs, hks, hf⟩ := h
  have ik : IsKey (.int .i64) (.int .i64 a) := rfl
  rcases findNow_spec ik es.toList 0 (MpAt.isKeys hks) with ⟨h1, h2⟩ | ⟨j, e0, h1, h2, h3⟩
  · refine ⟨_, by simp [Builtin.delete_, run_underlying ht, MapKept.run_getObj_map hb, run_checkKey hk ik, run_findKey hk h1, MapKept.run_setObj_map _ hb, Result.andThen]; rfl, ?_⟩
    have hn : f a = none := by
      cases hfa : f a with
      | none => rfl
      | some v =>
        obtain ⟨x, hx, hxk, _⟩ := (hf a v).1 hfa
        exact absurd hxk (h2 x hx)
    first
      | exact ⟨MpAt.congr ⟨es, clock, hb, hs, hks, hf⟩ (fun x => by by_cases ex : x = a <;> simp [ex, hn]), Out.refl _ _ _⟩
      | exact ⟨MpAt.congr ⟨es, clock, (heap_set hb).1, hs, hks, hf⟩ (fun x => by by_cases ex : x = a <;> simp [ex, hn]), out_setBlock hb _⟩
  · have hjl : j < es.toList.length := (List.getElem?_eq_some_iff.1 h2).1
    have hjs : j < es.size := by simpa using hjl
    have hsub : (es.eraseIdxIfInBounds j).toList = es.toList.eraseIdx j := by
      unfold Array.eraseIdxIfInBounds
      rw [dif_pos hjs]
      simp
    refine ⟨_, by simp [Builtin.delete_, run_underlying ht, MapKept.run_getObj_map hb, run_checkKey hk ik, run_findKey hk h1, MapKept.run_setObj_map _ hb, Result.andThen], ⟨_, _, (heap_set hb).1, stamped_erase hs j, ?_, ?_⟩, out_setBlock hb _⟩
    · intro x hx
      rw [hsub] at hx
      exact hks x ((List.eraseIdx_sublist _ _).subset hx)
    · intro a' v'
      rw [hsub]
      have hp := ((stamped_iff es clock).1 hs).2.2
      rw [List.pairwise_iff_getElem] at hp
      rw [List.getElem?_eq_getElem hjl] at h2
      have h2' := Option.some.inj h2
      show (if a' = a then none else f a') = some v' ↔ _
      by_cases ea : a' = a
      · subst ea
        rw [if_pos rfl]
        constructor
        · intro hv; cases hv
        · rintro ⟨x, hx, hxk, _⟩
          obtain ⟨i, hne, hi⟩ := List.mem_eraseIdx_iff_getElem?.1 hx
          obtain ⟨hi', hxe⟩ := List.getElem?_eq_some_iff.1 hi
          rcases Nat.lt_or_gt_of_ne hne with hlt | hlt
          · exact absurd (by rw [hxe, hxk, h2', h3]) (hp i j hi' hjl hlt)
          · exact absurd (by rw [hxe, hxk, h2', h3]) (hp j i hjl hi' hlt)
      · rw [if_neg ea, hf]
        constructor
        · rintro ⟨x, hx, hxk, hxv⟩
          obtain ⟨i, hi, rfl⟩ := List.getElem_of_mem hx
          refine ⟨_, List.mem_eraseIdx_iff_getElem?.2 ⟨i, fun e1 => ?_, List.getElem?_eq_getElem hi⟩, hxk, hxv⟩
          subst e1
          rw [h2', h3] at hxk
          simp at hxk
          exact ea hxk.symm
        · rintro ⟨x, hx, hxk, hxv⟩
          exact ⟨x, (List.eraseIdx_sublist _ _).subset hx, hxk, hxv⟩
end
end Go.Proofs.YtcpignkjlnjjmaaDoor
