import Derived.Test.YtcpignkjlnjjmaaGreatDoorNa02
import Derived.Test.YtcpignkjlnjjmaaGreatDoorNa03
import Derived.Test.YtcpignkjlnjjmaaGreatDoorNa04
namespace Go.Proofs.YtcpignkjlnjjmaaGreatDoor
open Go.RowKit
set_option linter.unusedVariables false
set_option linter.unusedSimpArgs false

/-- an object: its kind (0: there is none), size, serial, tag -/
abbrev Blk := Int × Int × Int × Int
def noB : Blk := (0, 0, 0, 0)
def hasB (b : Blk) : Bool := b.1 != 0
/-- a space: its words, its pages, by each place its object, the last serial -/
structure Sp where
  W : Nat → Int
  S : Nat → Int × Int × Int
  O : Nat → Blk
  last : Int
def wN (c : Int) : Nat := (wordsV c).toNat
def roomN (s : Int) : Nat := if 32 < s then ((s + 63) / 64).toNat * 64 else wN (ofV s)
/-- a block of the class begins there in its page -/
def startB (c : Int) (o : Nat) : Bool := decide (o % wN c = 0) && decide (o + wN c ≤ 64)
/-- the free blocks of a class -/
def fr (n : Nat) (st : Sp) (c : Int) (i : Nat) : Bool := decide (i < 64 * n) && (st.S (i / 64) == (1, c, 0)) && startB c (i % 64) && !hasB (st.O i)
def ob (n : Nat) (st : Sp) (i : Nat) : Bool := decide (i < 64 * n) && hasB (st.O i)
def nf (n : Nat) (st : Sp) (c : Int) (i : Nat) : Int := nxr (fr n st c) (64 * n) i
def zeroW (W : Nat → Int) (a k : Nat) : Nat → Int := fun i => if a ≤ i ∧ i < a + k then 0 else W i
def updW (W : Nat → Int) (a : Nat) (v : Int) : Nat → Int := fun i => if i = a then v else W i
def putO (O : Nat → Blk) (a : Nat) (b : Blk) : Nat → Blk := fun i => if i = a then b else O i
/-- the links of a class's free blocks, written -/
def linkW (n : Nat) (st : Sp) (c : Int) : Nat → Int := fun i => if fr n st c i then linkV (nf n st c (i + 1)) else st.W i
def numB (k : Int) : Bool := decide (1 ≤ k) && decide (k ≤ 11)
/-- where an object of so many words would stand, and whether its class takes a page -/
def placeF (n : Nat) (st : Sp) (s : Int) : Option (Nat × Bool) :=
  if 32 < s then (rowF st.S n ((s + 63) / 64).toNat).map fun p => (64 * p, false)
  else if 0 ≤ nf n st (ofV s) 0 then some ((nf n st (ofV s) 0).toNat, false) else (rowF st.S n 1).map fun p => (64 * p, true)
def takeS (st : Sp) (a : Nat) (fresh : Bool) (s : Int) : Nat → Int × Int × Int :=
  if 32 < s then setR st.S (a / 64) ((s + 63) / 64).toNat else if fresh then setC st.S (a / 64) (ofV s) else st.S
def serOf (st : Sp) (k : Int) : Int := if numB k then st.last + 1 else 0
def lastOf (st : Sp) (k : Int) : Int := if numB k then st.last + 1 else st.last
/-- the object stands there from now on -/
def takeF (n : Nat) (st : Sp) (a : Nat) (fresh : Bool) (k s t : Int) : Sp :=
  let O' := putO st.O a (k, s, serOf st k, t)
  let S' := takeS st a fresh s
  let W1 := if fresh then linkW n ⟨zeroW st.W a 64, S', O', 0⟩ (ofV s) else st.W
  ⟨updW (zeroW W1 a (roomN s)) a (makeV a k s), S', O', lastOf st k⟩
/-- Alloc: the place, the error, the error's place, the space behind it -/
def alF (n : Nat) (st : Sp) (k s t : Int) : Int × Int × Int × Sp :=
  if fitsB k s then
    match placeF n st s with
    | none => (0, 20, 0, st)
    | some (a, fresh) =>
      if s ≤ 32 ∧ fresh = false ∧ st.W a ≠ linkV (nf n st (ofV s) (a + 1)) then (0, 21, a, st) else (a, 0, 0, takeF n st a fresh k s t)
  else (0, 24, 0, st)

/-- an object at a place -/
def ObOk (n : Nat) (S : Nat → Int × Int × Int) (a : Nat) (b : Blk) : Prop :=
  a < 64 * n ∧ fitsB b.1 b.2.1 = true ∧ ((b.2.1 ≤ 32 ∧ S (a / 64) = (1, ofV b.2.1, 0) ∧ startB (ofV b.2.1) (a % 64) = true) ∨ (32 < b.2.1 ∧ a % 64 = 0 ∧ S (a / 64) = (2, 0, (b.2.1 + 63) / 64)))
structure Inv (n : Nat) (st : Sp) : Prop where
  n1 : 1 ≤ n
  n2 : n ≤ 4096
  good : Good n st.S
  objs : ∀ a, hasB (st.O a) = true → ObOk n st.S a (st.O a)
  none : ∀ a, hasB (st.O a) = false → st.O a = noB
  heads : ∀ p, p < n → (st.S p).1 = 2 → hasB (st.O (64 * p)) = true
  last0 : 0 ≤ st.last
  ser : ∀ a, hasB (st.O a) = true → (numB (st.O a).1 = true → 1 ≤ (st.O a).2.2.1 ∧ (st.O a).2.2.1 ≤ st.last) ∧ (numB (st.O a).1 = false → (st.O a).2.2.1 = 0)
  one : ∀ a b, hasB (st.O a) = true → hasB (st.O b) = true → 1 ≤ (st.O a).2.2.1 → (st.O a).2.2.1 = (st.O b).2.2.1 → a = b

theorem fits_size {k s : Int} (h : fitsB k s = true) : 1 ≤ k ∧ k ≤ 13 ∧ 1 ≤ s ∧ s ≤ 1024 := by
  obtain ⟨h1, h2, h3, _⟩ := fitsB_iff.1 h
  obtain ⟨j, rfl, j1, j2⟩ := known_nat h1
  obtain ⟨w1, w2, w3, w4, w5, w6, w7⟩ := wd_mo j1 j2
  refine ⟨by omega, by omega, by omega, ?_⟩
  by_cases e : j = 4
  · subst e
    have m : mo 4 = 4096 := rfl
    have m2 : wd 4 = 2 := rfl
    rw [show ((4 : Nat) : Int) = 4 from rfl, part_4, m, m2] at h3
    omega
  · rw [part_not4 (by omega)] at h3
    rcases kinds j1 j2 with rfl | rfl | rfl | rfl | rfl | rfl | rfl | rfl | rfl | rfl | rfl | rfl | rfl <;> (first | omega | (simp [wd, mo] at h3; omega))
theorem wN_pos {c : Int} (h0 : 0 ≤ c) (h7 : c ≤ 7) : 2 ≤ wN c ∧ wN c ≤ 32 := by
  have : c = 0 ∨ c = 1 ∨ c = 2 ∨ c = 3 ∨ c = 4 ∨ c = 5 ∨ c = 6 ∨ c = 7 := by omega
  rcases this with rfl | rfl | rfl | rfl | rfl | rfl | rfl | rfl <;> decide
theorem of_small {s : Int} (h1 : 1 ≤ s) (h2 : s ≤ 32) : 0 ≤ ofV s ∧ ofV s ≤ 7 ∧ s ≤ wordsV (ofV s) := by
  unfold ofV wordsV
  omega
theorem hasB_put {O : Nat → Blk} {a i : Nat} {b : Blk} : hasB (putO O a b i) = if i = a then hasB b else hasB (O i) := by
  unfold putO; split <;> rfl
theorem fr_iff {n : Nat} {st : Sp} {c : Int} {i : Nat} : fr n st c i = true ↔ i < 64 * n ∧ st.S (i / 64) = (1, c, 0) ∧ startB c (i % 64) = true ∧ hasB (st.O i) = false := by
  unfold fr
  rw [Bool.and_eq_true, Bool.and_eq_true, Bool.and_eq_true]
  simp [and_assoc]
theorem fr_beyond (n : Nat) (st : Sp) (c : Int) : ∀ j, 64 * n ≤ j → fr n st c j = false := fun j hj => by
  unfold fr; rw [show decide (j < 64 * n) = false from by simp; omega]; rfl
theorem ob_beyond (n : Nat) (st : Sp) : ∀ j, 64 * n ≤ j → ob n st j = false := fun j hj => by
  unfold ob; rw [show decide (j < 64 * n) = false from by simp; omega]; rfl
theorem ob_has {n : Nat} {st : Sp} (h : Inv n st) (i : Nat) : ob n st i = hasB (st.O i) := by
  unfold ob
  cases e : hasB (st.O i) with
  | false => simp
  | true => simp [(h.objs i e).1]
/-- the next one: none, or the least -/
theorem nxr_cases (P : Nat → Bool) (n k : Nat) : (nxr P n k = -1 ∧ ∀ j, k ≤ j → j < n → P j = false) ∨ ∃ i : Nat, nxr P n k = i ∧ i < n ∧ (k ≤ n → k ≤ i) ∧ P i = true ∧ ∀ j, k ≤ j → j < i → P j = false := by
  unfold nxr
  by_cases h : nx P n k < n
  · rw [if_pos h]
    exact .inr ⟨nx P n k, rfl, h, nx_ge P n k, nx_in P n k h, nx_out P n k⟩
  · rw [if_neg h]
    have := nx_le P n k
    exact .inl ⟨rfl, fun j h1 h2 => nx_out P n k j h1 (by omega)⟩
end Go.Proofs.YtcpignkjlnjjmaaGreatDoor
namespace Go.Proofs.YtcpignkjlnjjmaaGreatDoor
open Go.RowKit
set_option linter.unusedVariables false
set_option linter.unusedSimpArgs false

theorem rowF_pages {S : Nat → Int × Int × Int} {n k p : Nat} (hg : Good n S) (h : rowF S n k = some p) : p < n ∧ p + k ≤ n ∧ ∀ j, p ≤ j → j < p + k → S j = (0, 0, 0) := by
  obtain ⟨h1, h2, h3, _⟩ := rowF_some h
  exact ⟨h1, h2, fun j j1 j2 => hg.free (by omega) (allF_iff.1 h3 j j1 j2)⟩
theorem setC_eq (S : Nat → Int × Int × Int) (p : Nat) (c : Int) : setC S p c = setP S p (1, c, 0) := rfl
theorem setR_eq (S : Nat → Int × Int × Int) (p k : Nat) (h : 1 ≤ k) : setR S p k = putA (setP S p (2, 0, (k : Int))) (p + 1) (k - 1) (3, 0, 0) := by
  funext j
  unfold setR putA setP
  by_cases e : j = p
  · rw [if_pos e, if_neg (by omega), if_pos e]
  · rw [if_neg e]
    by_cases h2 : p < j ∧ j < p + k
    · rw [if_pos h2, if_pos (by omega)]
    · rw [if_neg h2, if_neg (by omega), if_neg e]
theorem setF_eq (S : Nat → Int × Int × Int) (p k : Nat) : setF S p k = putA S p k (0, 0, 0) := rfl
set_option maxRecDepth 100000 in
set_option maxHeartbeats 4000000 in
theorem takeClass_any {w : World} {b bw n : Nat} {S : Nat → Int × Int × Int} (h : TblAt 126 w b bw n S) (hT : Tab w) (c : Int) :
    Calls Tryz.prog 109 #[.pointer (some ⟨b, 0, none⟩), .int .i64 c] w fun e w' => e = .returned (.tuple #[.int .i64 (tcP S n c : Nat), .int .i64 (tcE S n c)]) ∧ TblAt 126 w' b bw n (tcS S n c) ∧ Out bw (bw + 1) w w' := by
  have hn := h.nums
  have HW := hid_mk (words_any c w)
  have HH := hid_mk h
  have HT := hid_mk hT
  by_cases hc : classB c = true
  · rw [hc] at HW
    unfold tcP tcE tcS
    rw [if_pos hc, if_pos hc, if_pos hc]
    have HR : Hid (∀ w', Out 0 0 w w' → Calls Tryz.prog 107 #[.pointer (some ⟨b, 0, none⟩), .int .i64 1] w' fun e w' => e = .returned (.tuple #[.int .i64 ((rowF S n 1).getD 0 : Nat), .bool (rowF S n 1).isSome]) ∧ Out 0 0 w w') := fun w' ho => by
      obtain ⟨cap, c0, _⟩ := (HH.out.quiet ho).cell
      exact (row_any c0 (HT.out.quiet ho) ⟨hn.1, hn.2.1⟩ (HH.out.quiet ho).row HH.out.good 1 (by omega) (by omega)).mono fun e w' ⟨a, b⟩ => ⟨a, ho.trans b⟩
    cases hf : rowF S n 1 with
    | none =>
      rw [hf] at HR
      clear hn h hT hc hf
      go_enter Tryz.func109, Tryz.ntmps109
      go_wp2_with (first | (go_at_call 104; refine HW.out.mono ?_; rintro e w1 ⟨v, rfl, hv, ho⟩; have HO := hid_mk ho; have hv2 : (v == 0) = false := hv; clear hv ho) | (go_at_call 107; refine (HR.out _ HO.out).mono ?_; rintro e w2 ⟨rfl, ho⟩))
      go_ret2
      exact ⟨rfl, HH.out.quiet ho, ho.any _ _⟩
    | some p =>
      rw [hf] at HR
      obtain ⟨p1, p2, p3⟩ := rowF_pages HH.out.good hf
      have p4 := p3 p (Nat.le_refl _) (by omega)
      have HG := hid_mk (good_setC HH.out.good p4 (by unfold classB at hc; simp at hc; exact hc.1) (by unfold classB at hc; simp at hc; exact hc.2))
      have b0 : (0 : Int) ≤ (p : Int) := by omega
      have b1 : (p : Int) < (n : Int) := by omega
      have b2 : (n : Int) ≤ 4096 := by omega
      have HP := hid_mk p1
      have HP4 := hid_mk p4
      clear hn h hT hc hf p1 p2 p3 p4
      go_enter Tryz.func109, Tryz.ntmps109
      go_wp2_with (first | (go_at_call 104; refine HW.out.mono ?_; rintro e w1 ⟨v, rfl, hv, ho⟩; have HO := hid_mk ho; have hv2 : (v == 0) = false := hv; clear hv ho) | (go_at_call 107; refine (HR.out _ HO.out).mono ?_; rintro e w2 ⟨rfl, ho⟩; obtain ⟨cap, c0, hcap⟩ := (HH.out.quiet ho).cell; obtain ⟨q0, q1, q2⟩ := (HH.out.quiet ho).row.page HP.out HP4.out; have fz0 := Row.frozen (HH.out.quiet ho).row (p * 3); have fz1 := Row.frozen (HH.out.quiet ho).row (p * 3 + 1); have fz2 := Row.frozen (HH.out.quiet ho).row (p * 3 + 2); have HO2 := hid_mk ho; clear ho))
      go_ret2
      have hr := (HH.out.quiet HO2.out).row.set p 1 c 0
      have ho3 : Out bw (bw + 1) w (((w2.setCell ⟨bw, p * 3, none⟩ (.int .i64 1)).setCell ⟨bw, p * 3 + 1, none⟩ (.int .i64 c)).setCell ⟨bw, p * 3 + 2, none⟩ (.int .i64 0)) := (HO2.out.any _ _).set3 (.inl ⟨Nat.le_refl _, Nat.lt_succ_self _⟩) _ _ _
      exact ⟨rfl, HH.out.turn ho3 hr HG.out, ho3⟩
  · have hc' : classB c = false := by simpa using hc
    rw [hc'] at HW
    unfold tcP tcE tcS
    rw [if_neg hc, if_neg hc, if_neg hc]
    clear hn h hT hc hc'
    go_enter Tryz.func109, Tryz.ntmps109
    go_wp2_with (go_at_call 104; refine HW.out.mono ?_; rintro e w1 ⟨v, rfl, hv, ho⟩; have HO := hid_mk ho; have hv2 : (v == 0) = true := hv; clear hv ho)
    go_ret2
    exact ⟨rfl, HH.out.quiet HO.out, HO.out.any _ _⟩
end Go.Proofs.YtcpignkjlnjjmaaGreatDoor
namespace Go.Proofs.YtcpignkjlnjjmaaGreatDoor
open Go.RowKit
set_option linter.unusedVariables false
set_option linter.unusedSimpArgs false

theorem inv_take {n : Nat} {st : Sp} {a : Nat} {kd s t : Int} {W' : Nat → Int} {S' : Nat → Int × Int × Int} (hi : Inv n st) (ha : hasB (st.O a) = false) (hf : fitsB kd s = true) (hg : Good n S')
    (hnew : ObOk n S' a (kd, s, serOf st kd, t)) (hold : ∀ b, b ≠ a → hasB (st.O b) = true → ObOk n S' b (st.O b)) (hh : ∀ q, q < n → (S' q).1 = 2 → 64 * q = a ∨ hasB (st.O (64 * q)) = true) :
    Inv n ⟨W', S', putO st.O a (kd, s, serOf st kd, t), lastOf st kd⟩ := by
  have hk := fits_size hf
  have hb : hasB (kd, s, serOf st kd, t) = true := by unfold hasB; simp; omega
  have hl : st.last ≤ lastOf st kd := by unfold lastOf; split <;> omega
  have hput : ∀ i, i ≠ a → putO st.O a (kd, s, serOf st kd, t) i = st.O i := fun i e => by unfold putO; rw [if_neg e]
  have hput' : putO st.O a (kd, s, serOf st kd, t) a = (kd, s, serOf st kd, t) := by unfold putO; rw [if_pos rfl]
  refine ⟨hi.n1, hi.n2, hg, ?_, ?_, ?_, ?_, ?_, ?_⟩
  · intro i h
    show ObOk n S' i (putO st.O a (kd, s, serOf st kd, t) i)
    by_cases e : i = a
    · subst e; rw [hput']; exact hnew
    · have h' : hasB (putO st.O a (kd, s, serOf st kd, t) i) = true := h
      rw [hput i e] at h' ⊢; exact hold i e h'
  · intro i h
    have h' : hasB (putO st.O a (kd, s, serOf st kd, t) i) = false := h
    show putO st.O a (kd, s, serOf st kd, t) i = noB
    by_cases e : i = a
    · subst e; rw [hput', hb] at h'; cases h'
    · rw [hput i e] at h' ⊢; exact hi.none i h'
  · intro q hq h2
    show hasB (putO st.O a (kd, s, serOf st kd, t) (64 * q)) = true
    rcases hh q hq h2 with e | e
    · rw [e, hput']; exact hb
    · by_cases e' : 64 * q = a
      · rw [e', hput']; exact hb
      · rw [hput _ e']; exact e
  · show 0 ≤ lastOf st kd
    have := hi.last0; omega
  · intro i h
    have h' : hasB (putO st.O a (kd, s, serOf st kd, t) i) = true := h
    show (numB (putO st.O a (kd, s, serOf st kd, t) i).1 = true → 1 ≤ (putO st.O a (kd, s, serOf st kd, t) i).2.2.1 ∧ (putO st.O a (kd, s, serOf st kd, t) i).2.2.1 ≤ lastOf st kd) ∧ (numB (putO st.O a (kd, s, serOf st kd, t) i).1 = false → (putO st.O a (kd, s, serOf st kd, t) i).2.2.1 = 0)
    by_cases e : i = a
    · subst e
      rw [hput']
      refine ⟨fun hn => ?_, fun hn => ?_⟩
      · have hn' : numB kd = true := hn
        show 1 ≤ serOf st kd ∧ serOf st kd ≤ lastOf st kd
        unfold serOf lastOf
        rw [if_pos hn', if_pos hn']
        have := hi.last0; omega
      · have hn' : numB kd = false := hn
        show serOf st kd = 0
        unfold serOf
        rw [if_neg (by simp [hn'])]
    · rw [hput i e] at h' ⊢
      have := hi.ser i h'
      exact ⟨fun hn => ⟨(this.1 hn).1, by have := (this.1 hn).2; omega⟩, this.2⟩
  · intro i j h1 h2 h3 h4
    have h1' : hasB (putO st.O a (kd, s, serOf st kd, t) i) = true := h1
    have h2' : hasB (putO st.O a (kd, s, serOf st kd, t) j) = true := h2
    have h3' : 1 ≤ (putO st.O a (kd, s, serOf st kd, t) i).2.2.1 := h3
    have h4' : (putO st.O a (kd, s, serOf st kd, t) i).2.2.1 = (putO st.O a (kd, s, serOf st kd, t) j).2.2.1 := h4
    have old : ∀ x, hasB (st.O x) = true → (st.O x).2.2.1 = serOf st kd → 1 ≤ serOf st kd → False := by
      intro x hx e1 e2
      have hs := hi.ser x hx
      unfold serOf at e1 e2
      by_cases hn : numB kd = true
      · rw [if_pos hn] at e1
        cases hx1 : numB (st.O x).1 with
        | true => have := (hs.1 hx1).2; omega
        | false => have := hs.2 hx1; have := hi.last0; omega
      · rw [if_neg hn] at e2; omega
    by_cases e : i = a
    · by_cases e' : j = a
      · rw [e, e']
      · exfalso
        subst e
        rw [hput', hput j e'] at h4'
        rw [hput'] at h3'
        rw [hput j e'] at h2'
        exact old j h2' h4'.symm h3'
    · by_cases e' : j = a
      · exfalso
        subst e'
        rw [hput', hput i e] at h4'
        rw [hput i e] at h1' h3'
        exact old i h1' h4' (show 1 ≤ serOf st kd from (show (st.O i).2.2.1 = serOf st kd from h4') ▸ h3')
      · rw [hput i e] at h1' h3' h4'
        rw [hput j e'] at h2' h4'
        exact hi.one i j h1' h2' h3' h4'
theorem run_k {s : Int} (h1 : 32 < s) (h2 : s ≤ 1024) : 1 ≤ ((s + 63) / 64).toNat ∧ ((s + 63) / 64).toNat ≤ 16 ∧ (((s + 63) / 64).toNat : Int) = (s + 63) / 64 := by omega
/-- an object's page is one of a class or a run's first -/
theorem ObOk.page {n a : Nat} {S : Nat → Int × Int × Int} {b : Blk} (h : ObOk n S a b) : a / 64 < n ∧ ((S (a / 64)).1 = 1 ∨ (S (a / 64)).1 = 2) := by
  obtain ⟨h1, _, h3⟩ := h
  refine ⟨by omega, ?_⟩
  rcases h3 with ⟨_, e, _⟩ | ⟨_, _, e⟩
  · rw [e]; exact .inl rfl
  · rw [e]; exact .inr rfl
theorem ObOk.same {n a : Nat} {S S' : Nat → Int × Int × Int} {b : Blk} (h : ObOk n S a b) (e : S' (a / 64) = S (a / 64)) : ObOk n S' a b := by
  obtain ⟨h1, h2, h3⟩ := h
  exact ⟨h1, h2, by rw [e]; exact h3⟩
/-- a great one -/
theorem take_run {n p : Nat} {st : Sp} {kd s t : Int} (hi : Inv n st) (hf : fitsB kd s = true) (h32 : 32 < s) (hr : rowF st.S n ((s + 63) / 64).toNat = some p) :
    Inv n (takeF n st (64 * p) false kd s t) ∧ (∀ c, fr n (takeF n st (64 * p) false kd s t) c = fr n st c) ∧ hasB (st.O (64 * p)) = false ∧ p + ((s + 63) / 64).toNat ≤ n := by
  obtain ⟨k1, k2, k3⟩ := run_k h32 (fits_size hf).2.2.2
  obtain ⟨p1, p2, p3⟩ := rowF_pages hi.good hr
  generalize hk : ((s + 63) / 64).toNat = k at *
  have hfree : ∀ a, hasB (st.O a) = true → a / 64 < p ∨ p + k ≤ a / 64 := by
    intro a ha
    have := (hi.objs a ha).page
    by_cases e : a / 64 < p ∨ p + k ≤ a / 64
    · exact e
    · have e1 := p3 (a / 64) (by omega) (by omega)
      rw [e1] at this
      simp at this
  have hS' : takeS st (64 * p) false s = setR st.S p k := by
    unfold takeS
    rw [if_pos h32, hk, show 64 * p / 64 = p from by omega]
  have out : ∀ j, (j < p ∨ p + k ≤ j) → setR st.S p k j = st.S j := by
    intro j hj
    unfold setR
    rw [if_neg (by omega), if_neg (by omega)]
  have hd : setR st.S p k p = (2, 0, (k : Int)) := by unfold setR; rw [if_pos rfl]
  have hrst : ∀ j, p < j → j < p + k → setR st.S p k j = (3, 0, 0) := by
    intro j a b
    unfold setR
    rw [if_neg (by omega), if_pos ⟨a, b⟩]
  have hno : hasB (st.O (64 * p)) = false := by
    cases e : hasB (st.O (64 * p)) with
    | false => rfl
    | true => have := hfree _ e; omega
  refine ⟨?_, ?_, hno, p2⟩
  · have := inv_take (W' := (takeF n st (64 * p) false kd s t).W) (S' := takeS st (64 * p) false s) (t := t) hi hno hf
      (by rw [hS']; exact good_setR hi.good p3 k1 k2 p2)
      (by rw [hS']; exact ⟨by omega, hf, .inr ⟨h32, by omega, by rw [show 64 * p / 64 = p from by omega, hd, ← k3]⟩⟩)
      (fun b _ hb => by rw [hS']; exact (hi.objs b hb).same (out _ (hfree b hb)))
      (fun q hq h2 => by
        rw [hS'] at h2
        by_cases e : q = p
        · left; omega
        · right
          by_cases e' : p < q ∧ q < p + k
          · rw [hrst q e'.1 e'.2] at h2; simp at h2
          · rw [out q (by omega)] at h2; exact hi.heads q hq h2)
    exact this
  · intro c
    funext i
    unfold fr
    show (decide (i < 64 * n) && (takeS st (64 * p) false s (i / 64) == (1, c, 0)) && startB c (i % 64) && !hasB (putO st.O (64 * p) (kd, s, serOf st kd, t) i)) = _
    rw [hS']
    by_cases e : i / 64 < p ∨ p + k ≤ i / 64
    · rw [out _ e]
      have : putO st.O (64 * p) (kd, s, serOf st kd, t) i = st.O i := by unfold putO; rw [if_neg (by omega)]
      rw [this]
    · have e1 := p3 (i / 64) (by omega) (by omega)
      have e2 : (setR st.S p k (i / 64) == (1, c, 0)) = false := by
        by_cases e3 : i / 64 = p
        · rw [e3, hd]; simp
        · rw [hrst _ (by omega) (by omega)]; simp
      rw [e2, e1]
      simp
/-- a small one, in a free block -/
theorem take_block {n a : Nat} {st : Sp} {kd s t : Int} (hi : Inv n st) (hf : fitsB kd s = true) (h32 : s ≤ 32) (ha : fr n st (ofV s) a = true) :
    Inv n (takeF n st a false kd s t) ∧ (∀ c, fr n (takeF n st a false kd s t) c = upd (fr n st c) a false) ∧ (∀ c, c ≠ ofV s → fr n st c a = false) := by
  obtain ⟨h1, h2, h3, h4⟩ := fr_iff.1 ha
  have hk := fits_size hf
  have hS' : takeS st a false s = st.S := by unfold takeS; rw [if_neg (by omega)]; simp
  refine ⟨?_, ?_, ?_⟩
  · have := inv_take (W' := (takeF n st a false kd s t).W) (S' := takeS st a false s) (t := t) hi h4 hf (by rw [hS']; exact hi.good)
      (by rw [hS']; exact ⟨h1, hf, .inl ⟨h32, h2, h3⟩⟩) (fun b _ hb => by rw [hS']; exact hi.objs b hb) (fun q hq h2 => by rw [hS'] at h2; exact .inr (hi.heads q hq h2))
    exact this
  · intro c
    funext i
    unfold fr
    show (decide (i < 64 * n) && (takeS st a false s (i / 64) == (1, c, 0)) && startB c (i % 64) && !hasB (putO st.O a (kd, s, serOf st kd, t) i)) = _
    rw [hS']
    unfold upd putO
    by_cases e : i = a
    · rw [if_pos e, if_pos e]
      have : hasB (kd, s, serOf st kd, t) = true := by unfold hasB; simp; omega
      rw [this]; simp
    · rw [if_neg e, if_neg e]
  · intro c hc
    cases e : fr n st c a with
    | false => rfl
    | true =>
      have := (fr_iff.1 e).2.1
      rw [h2] at this
      simp at this
      exact absurd this.symm hc
/-- a small one, in a page that its class takes -/
theorem take_fresh {n p : Nat} {st : Sp} {kd s t : Int} (hi : Inv n st) (hf : fitsB kd s = true) (h32 : s ≤ 32) (hr : rowF st.S n 1 = some p) :
    Inv n (takeF n st (64 * p) true kd s t) ∧ (∀ c i, fr n (takeF n st (64 * p) true kd s t) c i = if i / 64 = p then (decide (c = ofV s) && startB c (i % 64) && decide (i ≠ 64 * p)) else fr n st c i) ∧ (∀ a, a / 64 = p → hasB (st.O a) = false) ∧ p < n ∧ st.S p = (0, 0, 0) := by
  obtain ⟨p1, p2, p3⟩ := rowF_pages hi.good hr
  have hk := fits_size hf
  have hc := of_small hk.2.2.1 h32
  have hS' : takeS st (64 * p) true s = setC st.S p (ofV s) := by
    unfold takeS
    rw [if_neg (by omega), if_pos rfl, show 64 * p / 64 = p from by omega]
  have hp0 := p3 p (by omega) (by omega)
  have hno : ∀ a, a / 64 = p → hasB (st.O a) = false := by
    intro a hap
    cases e : hasB (st.O a) with
    | false => rfl
    | true =>
      have := (hi.objs a e).page
      rw [hap, hp0] at this
      simp at this
  have out : ∀ j, j ≠ p → setC st.S p (ofV s) j = st.S j := fun j hj => by unfold setC; rw [if_neg hj]
  have hin : setC st.S p (ofV s) p = (1, ofV s, 0) := by unfold setC; rw [if_pos rfl]
  refine ⟨?_, ?_, hno, p1, hp0⟩
  · have := inv_take (W' := (takeF n st (64 * p) true kd s t).W) (S' := takeS st (64 * p) true s) (t := t) hi (hno (64 * p) (by omega)) hf (by rw [hS']; exact good_setC hi.good hp0 hc.1 hc.2.1)
      (by
        rw [hS']
        refine ⟨by omega, hf, .inl ⟨h32, by rw [show 64 * p / 64 = p from by omega, hin], ?_⟩⟩
        have hw := wN_pos hc.1 hc.2.1
        show startB (ofV s) (64 * p % 64) = true
        rw [show 64 * p % 64 = 0 from by omega]
        unfold startB
        simp; omega)
      (fun b _ hb => by
        rw [hS']
        refine (hi.objs b hb).same (out (b / 64) (fun e => ?_))
        rw [hno b e] at hb; cases hb)
      (fun q hq h2 => by
        rw [hS'] at h2
        by_cases e : q = p
        · left; omega
        · rw [out q e] at h2; exact .inr (hi.heads q hq h2))
    exact this
  · intro c i
    unfold fr
    show (decide (i < 64 * n) && (takeS st (64 * p) true s (i / 64) == (1, c, 0)) && startB c (i % 64) && !hasB (putO st.O (64 * p) (kd, s, serOf st kd, t) i)) = _
    rw [hS']
    by_cases e : i / 64 = p
    · rw [if_pos e, e, hin]
      have e1 : ((1, ofV s, 0) == ((1 : Int), c, (0 : Int))) = decide (c = ofV s) := by
        rw [Bool.eq_iff_iff]; simp; exact eq_comm
      rw [e1, show decide (i < 64 * n) = true from by simp; omega]
      unfold putO
      by_cases e2 : i = 64 * p
      · rw [if_pos e2]
        have : hasB (kd, s, serOf st kd, t) = true := by unfold hasB; simp; omega
        rw [this, show decide (i ≠ 64 * p) = false from by simp [e2]]
        simp
      · rw [if_neg e2, hno i e, show decide (i ≠ 64 * p) = true from by simp [e2]]
        simp
    · rw [if_neg e, out _ e]
      have : putO st.O (64 * p) (kd, s, serOf st kd, t) i = st.O i := by unfold putO; rw [if_neg (by omega)]
      rw [this]
end Go.Proofs.YtcpignkjlnjjmaaGreatDoor
