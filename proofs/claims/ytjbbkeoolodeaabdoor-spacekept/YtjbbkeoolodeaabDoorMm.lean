import Derived.Test.YtjbbkeoolodeaabDoorMl
namespace Go.Proofs.YtjbbkeoolodeaabDoor
open Go.RowKit
set_option linter.unusedVariables false
set_option linter.unusedSimpArgs false

theorem nxr_congr {P Q : Nat → Bool} {n k : Nat} (h : ∀ j, k ≤ j → j < n → P j = Q j) : nxr P n k = nxr Q n k := by
  unfold nxr
  rw [nx_congr h]
/-- every link and every header is right -/
def Rt (n : Nat) (st : Sp) : Prop := (∀ c a, fr n st c a = true → st.W a = linkV (nf n st c (a + 1))) ∧ ∀ a, hasB (st.O a) = true → st.W a = makeV a (st.O a).1 (st.O a).2.1
theorem room_small {z : Int} (h : z ≤ 32) : roomN z = wN (ofV z) := by unfold roomN; rw [if_neg (by omega)]
theorem room_great {z : Int} (h : 32 < z) : roomN z = ((z + 63) / 64).toNat * 64 := by unfold roomN; rw [if_pos h]
/-- a free block lies in no room -/
theorem free_out {n : Nat} {st : Sp} (hi : Inv n st) {c : Int} {i a : Nat} (hf : fr n st c i = true) (ha : hasB (st.O a) = true) : i < a ∨ a + roomN (st.O a).2.1 ≤ i := by
  obtain ⟨f1, f2, f3, f4⟩ := fr_iff.1 hf
  obtain ⟨h1, h2, h3⟩ := hi.objs a ha
  have hz := fits_size h2
  by_cases hlt : i < a
  · exact .inl hlt
  right
  rcases h3 with ⟨s1, s2, s3⟩ | ⟨s1, s2, s3⟩
  · rw [room_small s1]
    have hc := of_small hz.2.2.1 s1
    have hw := wN_pos hc.1 hc.2.1
    unfold startB at s3
    rw [Bool.and_eq_true] at s3
    have s4 : a % 64 % wN (ofV (st.O a).2.1) = 0 := by simpa using s3.1
    have s5 : a % 64 + wN (ofV (st.O a).2.1) ≤ 64 := by simpa using s3.2
    by_cases hge : a + wN (ofV (st.O a).2.1) ≤ i
    · exact hge
    exfalso
    have hp : i / 64 = a / 64 := by omega
    rw [hp, s2] at f2
    have hcc : c = ofV (st.O a).2.1 := by simp at f2; exact f2.symm
    rw [hcc] at f3
    unfold startB at f3
    rw [Bool.and_eq_true] at f3
    have s6 : i % 64 % wN (ofV (st.O a).2.1) = 0 := by simpa using f3.1
    by_cases he : i = a
    · rw [he, ha] at f4; cases f4
    · have := mult_gap (by omega) s4 s6 (by omega)
      omega
  · rw [room_great s1]
    obtain ⟨k1, k2, k3⟩ := run_k s1 hz.2.2.2
    by_cases hge : a + (((st.O a).2.1 + 63) / 64).toNat * 64 ≤ i
    · exact hge
    exfalso
    have hp := hi.good (a / 64) (by omega)
    unfold PgOk at hp
    rw [s3] at hp
    rcases hp with e | ⟨c', _, _, e⟩ | ⟨k, _, _, e3, e4, e5⟩ | ⟨e, _⟩
    · simp at e
    · simp at e
    · have e4' : (((st.O a).2.1 + 63) / 64) = (k : Int) := by simp at e4; exact e4
      by_cases he : i / 64 = a / 64
      · rw [he, s3] at f2; simp at f2
      · have := e5 (i / 64) (by omega) (by omega)
        rw [this] at f2; simp at f2
    · simp at e
theorem obj_out {n : Nat} {st : Sp} (hi : Inv n st) {a b : Nat} (ha : hasB (st.O a) = true) (hb : hasB (st.O b) = true) (hne : b ≠ a) : b < a ∨ a + roomN (st.O a).2.1 ≤ b := by
  have hP : ∀ x, hasB (st.O x) = true → (rawOf n st).P x = true := fun x hx => by show ob n st x = true; rw [ob_has hi]; exact hx
  have hM : (rawOf n st).M (a : Int) = some (st.O a) := by
    show obM st (a : Int) = _
    unfold obM
    rw [show ((a : Int)).toNat = a from by omega, if_pos ⟨by omega, ha⟩]
  by_cases h : b < a
  · exact .inl h
  · exact .inr ((rooms_of hi a _ (hP a ha) hM).2.2.2 b (by omega) (hP b hb))
section
variable {n a : Nat} {st : Sp} {fresh : Bool} {kd z t : Int}
theorem putO_self : putO st.O a (kd, z, serOf st kd, t) a = (kd, z, serOf st kd, t) := by unfold putO; rw [if_pos rfl]
theorem putO_ne {i : Nat} (h : i ≠ a) : putO st.O a (kd, z, serOf st kd, t) i = st.O i := by unfold putO; rw [if_neg h]
/-- what is behind a taking: by what the words were ahead of the room's clearing -/
theorem rt_of {W1 : Nat → Int} (hi' : Inv n (takeF n st a fresh kd z t)) (hW : (takeF n st a fresh kd z t).W = updW (zeroW W1 a (roomN z)) a (makeV a kd z)) (hf : fitsB kd z = true)
    (hl : ∀ c i, fr n (takeF n st a fresh kd z t) c i = true → W1 i = linkV (nf n (takeF n st a fresh kd z t) c (i + 1)))
    (hh : ∀ b, b ≠ a → hasB (st.O b) = true → W1 b = makeV b (st.O b).1 (st.O b).2.1) : Rt n (takeF n st a fresh kd z t) := by
  have hk := fits_size hf
  have hO : (takeF n st a fresh kd z t).O = putO st.O a (kd, z, serOf st kd, t) := rfl
  have hba : hasB ((takeF n st a fresh kd z t).O a) = true := by rw [hO, putO_self]; unfold hasB; simp; omega
  have hra : ((takeF n st a fresh kd z t).O a).2.1 = z := by rw [hO, putO_self]
  have hw : 1 ≤ roomN z := by
    by_cases h : z ≤ 32
    · rw [room_small h]
      have hc := of_small hk.2.2.1 h
      have := wN_pos hc.1 hc.2.1; omega
    · rw [room_great (by omega)]
      have := run_k (s := z) (by omega) hk.2.2.2; omega
  have out : ∀ i, (i < a ∨ a + roomN z ≤ i) → (takeF n st a fresh kd z t).W i = W1 i := by
    intro i h
    rw [hW]
    unfold updW zeroW
    rw [if_neg (by omega), if_neg (by omega)]
  refine ⟨fun c i h => ?_, fun b h => ?_⟩
  · have := free_out hi' h hba
    rw [hra] at this
    rw [out i this]
    exact hl c i h
  · by_cases e : b = a
    · subst e
      rw [hO, putO_self, hW]
      unfold updW
      rw [if_pos rfl]
    · have := obj_out hi' hba h e
      rw [hra] at this
      rw [out b this]
      rw [hO, putO_ne e] at h ⊢
      exact hh b e h
theorem rt_run {p : Nat} (hi : Inv n st) (hR : Rt n st) (hf : fitsB kd z = true) (h32 : 32 < z) (hr : rowF st.S n ((z + 63) / 64).toNat = some p) : Rt n (takeF n st (64 * p) false kd z t) := by
  obtain ⟨t1, t2, t3, t4⟩ := take_run (t := t) hi hf h32 hr
  refine rt_of (W1 := st.W) t1 rfl hf (fun c i h => ?_) (fun b _ h => hR.2 b h)
  unfold nf
  rw [t2] at h ⊢
  exact hR.1 c i h
theorem rt_block (hi : Inv n st) (hR : Rt n st) (hf : fitsB kd z = true) (h32 : z ≤ 32) (ha : fr n st (ofV z) a = true) (hmin : ∀ j, j < a → fr n st (ofV z) j = false) : Rt n (takeF n st a false kd z t) := by
  obtain ⟨t1, t2, t3⟩ := take_block (t := t) hi hf h32 ha
  refine rt_of (W1 := st.W) t1 rfl hf (fun c i h => ?_) (fun b _ h => hR.2 b h)
  unfold nf
  rw [t2] at h ⊢
  have hia : i ≠ a := by rintro rfl; unfold upd at h; rw [if_pos rfl] at h; cases h
  have hfi : fr n st c i = true := by unfold upd at h; rw [if_neg hia] at h; exact h
  rw [hR.1 c i hfi]
  unfold nf
  congr 1
  refine nxr_congr fun j j1 j2 => ?_
  unfold upd
  by_cases e : j = a
  · rw [if_pos e, e]
    by_cases ec : c = ofV z
    · exfalso
      subst ec
      have := hmin i (by omega)
      rw [hfi] at this; cases this
    · exact t3 c ec
  · rw [if_neg e]
theorem rt_fresh {p : Nat} (hi : Inv n st) (hR : Rt n st) (hf : fitsB kd z = true) (h32 : z ≤ 32) (hr : rowF st.S n 1 = some p) : Rt n (takeF n st (64 * p) true kd z t) := by
  obtain ⟨t1, t2, t3, t4, t5⟩ := take_fresh (t := t) hi hf h32 hr
  obtain ⟨st2, hst2⟩ : ∃ q : Sp, q = ⟨zeroW st.W (64 * p) 64, takeS st (64 * p) true z, putO st.O (64 * p) (kd, z, serOf st kd, t), 0⟩ := ⟨_, rfl⟩
  have hfr : ∀ c, fr n st2 c = fr n (takeF n st (64 * p) true kd z t) c := fun c => by rw [hst2]; rfl
  refine rt_of (W1 := linkW n st2 (ofV z)) t1 (by rw [hst2]; rfl) hf (fun c i h => ?_) (fun b hb h => ?_)
  · unfold linkW nf
    rw [hfr]
    by_cases ec : c = ofV z
    · rw [← ec, if_pos h]
    · have hz := t2 (ofV z) i
      have hcc := t2 c i
      rw [h] at hcc
      by_cases ei : i / 64 = p
      · rw [if_pos ei, show decide (c = ofV z) = false from by simp [ec]] at hcc
        cases hcc
      · rw [if_neg ei] at hcc hz
        have hno : fr n (takeF n st (64 * p) true kd z t) (ofV z) i = false := by
          rw [hz]
          cases e : fr n st (ofV z) i with
          | false => rfl
          | true =>
            have a1 := (fr_iff.1 e).2.1
            have a2 := (fr_iff.1 hcc.symm).2.1
            rw [a1] at a2
            simp at a2
            exact absurd a2.symm ec
        rw [hno, if_neg (by simp)]
        have hWi : st2.W i = st.W i := by rw [hst2]; show zeroW st.W (64 * p) 64 i = _; unfold zeroW; rw [if_neg (by omega)]
        rw [hWi, hR.1 c i hcc.symm]
        unfold nf
        congr 1
        refine nxr_congr fun j j1 j2 => ?_
        rw [t2 c j]
        by_cases ej : j / 64 = p
        · rw [if_pos ej, show decide (c = ofV z) = false from by simp [ec]]
          cases e : fr n st c j with
          | false => rfl
          | true =>
            have a1 := (fr_iff.1 e).2.1
            rw [ej, t5] at a1
            simp at a1
        · rw [if_neg ej]
  · have hbp : b / 64 ≠ p := fun e => by rw [t3 b e] at h; cases h
    have hno : fr n st2 (ofV z) b = false := by
      rw [hfr, t2, if_neg hbp]
      cases e : fr n st (ofV z) b with
      | false => rfl
      | true => have := (fr_iff.1 e).2.2.2; rw [h] at this; cases this
    unfold linkW
    rw [hno, if_neg (by simp)]
    have hWb : st2.W b = st.W b := by rw [hst2]; show zeroW st.W (64 * p) 64 b = _; unfold zeroW; rw [if_neg (by omega)]
    rw [hWb]
    exact hR.2 b h
/-- Alloc of a right space: no place, no such object, or it is taken; right it stays -/
theorem al_right (hi : Inv n st) (hR : Rt n st) (hf : fitsB kd z = true) :
    (placeF n st z = none ∧ alF n st kd z t = (0, 20, 0, st)) ∨
    ∃ a fresh, placeF n st z = some (a, fresh) ∧ alF n st kd z t = ((a : Int), 0, 0, takeF n st a fresh kd z t) ∧ Inv n (takeF n st a fresh kd z t) ∧ Rt n (takeF n st a fresh kd z t) ∧ hasB (st.O a) = false ∧ a + roomN z ≤ 64 * n ∧ a < 64 * n := by
  have hz := fits_size hf
  unfold alF
  rw [if_pos hf]
  by_cases h32 : 32 < z
  · have hpl : placeF n st z = (rowF st.S n ((z + 63) / 64).toNat).map fun p => (64 * p, false) := by unfold placeF; rw [if_pos h32]
    cases hr : rowF st.S n ((z + 63) / 64).toNat with
    | none => left; rw [hpl, hr]; exact ⟨rfl, rfl⟩
    | some p =>
      right
      obtain ⟨t1, t2, t3, t4⟩ := take_run (t := t) hi hf h32 hr
      have := run_k h32 hz.2.2.2
      refine ⟨64 * p, false, by rw [hpl, hr]; rfl, ?_, t1, rt_run hi hR hf h32 hr, t3, by rw [room_great h32]; omega, by omega⟩
      rw [hpl, hr]
      simp only [Option.map_some]
      rw [if_neg (by omega)]
  · have hpl : placeF n st z = if 0 ≤ nf n st (ofV z) 0 then some ((nf n st (ofV z) 0).toNat, false) else (rowF st.S n 1).map fun p => (64 * p, true) := by unfold placeF; rw [if_neg h32]
    have hc := of_small hz.2.2.1 (by omega)
    have hw := wN_pos hc.1 hc.2.1
    rcases nxr_cases (fr n st (ofV z)) (64 * n) 0 with ⟨e1, e2⟩ | ⟨i, e1, e2, e3, e4, e5⟩
    · have e1' : nf n st (ofV z) 0 = -1 := e1
      rw [e1', if_neg (by omega)] at hpl
      cases hr : rowF st.S n 1 with
      | none => left; rw [hpl, hr]; exact ⟨rfl, rfl⟩
      | some p =>
        right
        obtain ⟨t1, t2, t3, t4, t5⟩ := take_fresh (t := t) hi hf (by omega) hr
        refine ⟨64 * p, true, by rw [hpl, hr]; rfl, ?_, t1, rt_fresh hi hR hf (by omega) hr, t3 _ (by omega), by rw [room_small (by omega)]; omega, by omega⟩
        rw [hpl, hr]
        simp only [Option.map_some]
        rw [if_neg (by simp)]
    · have e1' : nf n st (ofV z) 0 = (i : Int) := e1
      rw [e1', if_pos (by omega)] at hpl
      simp only [Int.toNat_natCast] at hpl
      obtain ⟨t1, t2, t3⟩ := take_block (t := t) hi hf (by omega) e4
      obtain ⟨f1, f2, f3, f4⟩ := fr_iff.1 e4
      unfold startB at f3
      rw [Bool.and_eq_true] at f3
      have f5 : i % 64 + wN (ofV z) ≤ 64 := by simpa using f3.2
      right
      refine ⟨i, false, hpl, ?_, t1, rt_block hi hR hf (by omega) e4 (fun j hj => e5 j (Nat.zero_le _) hj), f4, by rw [room_small (by omega)]; omega, e2⟩
      rw [hpl]
      simp only []
      rw [if_neg]
      rintro ⟨_, _, h⟩
      exact h (hR.1 _ i e4)
end
/-- the words of the rooms, and how many there are, behind a taking -/
theorem used_take {r r' : Raw} {a : Nat} {b : Blk} (hP : ∀ j, j ≠ a → r'.P j = r.P j ∧ r'.M (j : Int) = r.M (j : Int)) (h0 : r.P a = false) (h1 : r'.P a = true) (hb : r'.M (a : Int) = some b) :
    ∀ p, usedTo r' p = usedTo r p + if a < p then roomN b.2.1 else 0
  | 0 => rfl
  | p + 1 => by
    have ih := used_take hP h0 h1 hb p
    by_cases e : p = a
    · subst e
      rw [used_step h1 hb, ih, if_neg (by omega), if_pos (by omega)]
      have : usedTo r (p + 1) = usedTo r p := by conv => lhs; unfold usedTo
                                                 rw [h0]; rfl
      omega
    · conv => lhs; unfold usedTo
      conv => rhs; unfold usedTo
      rw [(hP p e).1, (hP p e).2, ih]
      have e2 : (a < p + 1) ↔ a < p := by omega
      simp only [e2]
      split
      · split <;> omega
      · rfl
theorem freed_take {r r' : Raw} {a : Nat} (hP : ∀ j, j ≠ a → r'.P j = r.P j) (h0 : r.P a = false) (h1 : r'.P a = true) :
    ∀ p, freedTo r' (fun _ => false) p = freedTo r (fun _ => false) p + if a < p then 1 else 0
  | 0 => rfl
  | p + 1 => by
    have ih := freed_take hP h0 h1 p
    by_cases e : p = a
    · subst e
      have e1 : freedTo r' (fun _ => false) (p + 1) = freedTo r' (fun _ => false) p + 1 := by
        conv => lhs; unfold freedTo
        simp [h1]
      have e2 : freedTo r (fun _ => false) (p + 1) = freedTo r (fun _ => false) p := by
        conv => lhs; unfold freedTo
        simp [h0]
      rw [e1, e2, ih]
      simp
    · conv => lhs; unfold freedTo
      conv => rhs; unfold freedTo
      rw [hP p e, ih]
      have e2 : (a < p + 1) ↔ a < p := by omega
      simp only [e2]
      split <;> omega
section
variable {n a : Nat} {st : Sp} {fresh : Bool} {kd z t : Int}
theorem take_counts (hf : fitsB kd z = true) (ha : a < 64 * n) (hno : hasB (st.O a) = false) :
    usedTo (rawOf n (takeF n st a fresh kd z t)) (64 * n) = usedTo (rawOf n st) (64 * n) + roomN z ∧ freedTo (rawOf n (takeF n st a fresh kd z t)) (fun _ => false) (64 * n) = freedTo (rawOf n st) (fun _ => false) (64 * n) + 1 := by
  have hP : ∀ j, (rawOf n (takeF n st a fresh kd z t)).P j = upd (ob n st) a true j := fun j => by
    show ob n (takeF n st a fresh kd z t) j = _
    rw [ob_take (t := t) hf ha]
  have hM : ∀ i, (rawOf n (takeF n st a fresh kd z t)).M i = if i = (a : Int) then some (kd, z, serOf st kd, t) else obM st i := fun i => by
    show obM (takeF n st a fresh kd z t) i = _
    rw [← obM_take (t := t) hf]
  have h0 : (rawOf n st).P a = false := by show ob n st a = false; unfold ob; rw [hno]; simp
  have h1 : (rawOf n (takeF n st a fresh kd z t)).P a = true := by rw [hP]; unfold upd; rw [if_pos rfl]
  have hj : ∀ j, j ≠ a → (rawOf n (takeF n st a fresh kd z t)).P j = (rawOf n st).P j := fun j e => by rw [hP]; unfold upd; rw [if_neg e]; rfl
  have hb : (rawOf n (takeF n st a fresh kd z t)).M (a : Int) = some (kd, z, serOf st kd, t) := by rw [hM, if_pos rfl]
  refine ⟨?_, ?_⟩
  · rw [used_take (r := rawOf n st) (fun j e => ⟨hj j e, by rw [hM, if_neg (by omega)]; rfl⟩) h0 h1 hb, if_pos ha]
  · rw [freed_take (r := rawOf n st) hj h0 h1, if_pos ha]
end
end Go.Proofs.YtjbbkeoolodeaabDoor
namespace Go.Proofs.YtjbbkeoolodeaabDoor
open Go.RowKit
set_option linter.unusedVariables false
set_option linter.unusedSimpArgs false

/-- k small ones of a class of w words, b a page -/
def FillS (n : Nat) (c : Int) (w b k : Nat) (st : Sp) : Prop :=
  (∀ p, p < n → st.S p = if p * b < k then (1, c, 0) else (0, 0, 0)) ∧ ∀ a, hasB (st.O a) = (decide (a < 64 * n) && (startB c (a % 64) && decide (a / 64 * b + a % 64 / w < k)))
/-- k great ones of r pages -/
def FillR (n r k : Nat) (st : Sp) : Prop :=
  (∀ p, p < n → st.S p = if p < r * k then (if p % r = 0 then (2, 0, (r : Int)) else (3, 0, 0)) else (0, 0, 0)) ∧ ∀ a, hasB (st.O a) = (decide (a % 64 = 0) && (decide (a / 64 % r = 0) && decide (a / 64 < r * k)))
/-- a space without an object -/
def Bare (n : Nat) (st : Sp) : Prop := (∀ p, p < n → st.S p = (0, 0, 0)) ∧ ∀ a, hasB (st.O a) = false
theorem bare_rt {n : Nat} {st : Sp} (h : Bare n st) : Rt n st := by
  refine ⟨fun c a hf => ?_, fun a ha => ?_⟩
  · obtain ⟨f1, f2, _, _⟩ := fr_iff.1 hf
    rw [h.1 (a / 64) (by omega)] at f2
    simp at f2
  · rw [h.2 a] at ha; cases ha
theorem bare_S {n : Nat} {st : Sp} (h : Bare n st) (c : Int) (w b : Nat) : FillS n c w b 0 st :=
  ⟨fun p hp => by rw [h.1 p hp, if_neg (by omega)], fun a => by rw [h.2 a]; simp⟩
theorem bare_R {n : Nat} {st : Sp} (h : Bare n st) (r : Nat) : FillR n r 0 st :=
  ⟨fun p hp => by rw [h.1 p hp, if_neg (by omega)], fun a => by rw [h.2 a]; simp⟩
/-- the class's numbers -/
def ClsN (c : Int) (w b : Nat) : Prop := (c = 0 ∧ w = 2 ∧ b = 32) ∨ (c = 1 ∧ w = 4 ∧ b = 16) ∨ (c = 2 ∧ w = 6 ∧ b = 10) ∨ (c = 3 ∧ w = 8 ∧ b = 8) ∨ (c = 4 ∧ w = 12 ∧ b = 5) ∨ (c = 5 ∧ w = 16 ∧ b = 4) ∨ (c = 6 ∧ w = 20 ∧ b = 3) ∨ (c = 7 ∧ w = 32 ∧ b = 2)
theorem cls_w {c : Int} {w b : Nat} (h : ClsN c w b) : wN c = w := by
  rcases h with ⟨rfl, rfl, rfl⟩ | ⟨rfl, rfl, rfl⟩ | ⟨rfl, rfl, rfl⟩ | ⟨rfl, rfl, rfl⟩ | ⟨rfl, rfl, rfl⟩ | ⟨rfl, rfl, rfl⟩ | ⟨rfl, rfl, rfl⟩ | ⟨rfl, rfl, rfl⟩ <;> rfl
/-- numbers of a place, all at once -/
theorem cls_nums {c : Int} {w b : Nat} (h : ClsN c w b) (k : Nat) :
    k / b * b ≤ k ∧ k < k / b * b + b ∧ (64 * (k / b) + k % b * w) / 64 = k / b ∧ (64 * (k / b) + k % b * w) % 64 = k % b * w ∧ k % b * w / w = k % b ∧ k % b * w % w = 0 ∧ k % b * w + w ≤ 64 ∧ k / b * b + k % b = k ∧ (k % b = 0 → k / b * b = k) := by
  rcases h with ⟨rfl, rfl, rfl⟩ | ⟨rfl, rfl, rfl⟩ | ⟨rfl, rfl, rfl⟩ | ⟨rfl, rfl, rfl⟩ | ⟨rfl, rfl, rfl⟩ | ⟨rfl, rfl, rfl⟩ | ⟨rfl, rfl, rfl⟩ | ⟨rfl, rfl, rfl⟩ <;> omega
/-- a place of the class is at least the k-th, if its number is -/
theorem cls_least {c : Int} {w b : Nat} (h : ClsN c w b) {k a : Nat} (h1 : a % 64 % w = 0) (h2 : a % 64 + w ≤ 64) (h3 : a / 64 * b < k) (h4 : ¬ a / 64 * b + a % 64 / w < k) : 64 * (k / b) + k % b * w ≤ a ∧ k % b ≠ 0 := by
  rcases h with ⟨rfl, rfl, rfl⟩ | ⟨rfl, rfl, rfl⟩ | ⟨rfl, rfl, rfl⟩ | ⟨rfl, rfl, rfl⟩ | ⟨rfl, rfl, rfl⟩ | ⟨rfl, rfl, rfl⟩ | ⟨rfl, rfl, rfl⟩ | ⟨rfl, rfl, rfl⟩ <;> omega
theorem cls_same {c : Int} {w b : Nat} (h : ClsN c w b) {k a : Nat} (h1 : a % 64 % w = 0) (h2 : a % 64 + w ≤ 64) (h3 : a / 64 * b + a % 64 / w = k) : a = 64 * (k / b) + k % b * w := by
  rcases h with ⟨rfl, rfl, rfl⟩ | ⟨rfl, rfl, rfl⟩ | ⟨rfl, rfl, rfl⟩ | ⟨rfl, rfl, rfl⟩ | ⟨rfl, rfl, rfl⟩ | ⟨rfl, rfl, rfl⟩ | ⟨rfl, rfl, rfl⟩ | ⟨rfl, rfl, rfl⟩ <;> omega
theorem cls_page {c : Int} {w b : Nat} (h : ClsN c w b) {k p : Nat} : (p * b < k + 1 ↔ (p * b < k ∨ p * b = k)) ∧ (p * b = k → p = k / b ∧ k % b = 0) ∧ (k / b < p → ¬ p * b < k) ∧ (p < k / b → p * b < k) := by
  rcases h with ⟨rfl, rfl, rfl⟩ | ⟨rfl, rfl, rfl⟩ | ⟨rfl, rfl, rfl⟩ | ⟨rfl, rfl, rfl⟩ | ⟨rfl, rfl, rfl⟩ | ⟨rfl, rfl, rfl⟩ | ⟨rfl, rfl, rfl⟩ | ⟨rfl, rfl, rfl⟩ <;> omega
theorem startB_iff {c : Int} {w b : Nat} (h : ClsN c w b) (o : Nat) : startB c o = true ↔ o % w = 0 ∧ o + w ≤ 64 := by
  unfold startB
  rw [cls_w h]
  simp
section
variable {n k w b : Nat} {c : Int} {st : Sp}
theorem fillS_fr (hc : ClsN c w b) (h : FillS n c w b k st) {a : Nat} : fr n st c a = true ↔ a < 64 * n ∧ a % 64 % w = 0 ∧ a % 64 + w ≤ 64 ∧ a / 64 * b < k ∧ ¬ a / 64 * b + a % 64 / w < k := by
  rw [fr_iff]
  constructor
  · rintro ⟨h1, h2, h3, h4⟩
    obtain ⟨s1, s2⟩ := (startB_iff hc _).1 h3
    rw [h.1 _ (by omega)] at h2
    rw [h.2 a, h3] at h4
    refine ⟨h1, s1, s2, ?_, ?_⟩
    · by_cases e : a / 64 * b < k
      · exact e
      · rw [if_neg e] at h2; simp at h2
    · intro e
      simp [e] at h4; omega
  · rintro ⟨h1, s1, s2, h3, h4⟩
    have hs := (startB_iff hc (a % 64)).2 ⟨s1, s2⟩
    refine ⟨h1, by rw [h.1 _ (by omega), if_pos h3], hs, ?_⟩
    rw [h.2 a, show decide (a / 64 * b + a % 64 / w < k) = false from by simpa using h4]
    simp
theorem fillS_place {z : Int} (hz : z ≤ 32) (hoc : ofV z = c) (hc : ClsN c w b) (h : FillS n c w b k st) :
    (k < n * b → placeF n st z = some (64 * (k / b) + k % b * w, decide (k % b = 0))) ∧ (¬ k < n * b → placeF n st z = none) := by
  obtain ⟨n1, n2, n3, n4, n5, n6, n7, n8, n9⟩ := cls_nums hc k
  have hb : 1 ≤ b := by rcases hc with ⟨_, _, rfl⟩ | ⟨_, _, rfl⟩ | ⟨_, _, rfl⟩ | ⟨_, _, rfl⟩ | ⟨_, _, rfl⟩ | ⟨_, _, rfl⟩ | ⟨_, _, rfl⟩ | ⟨_, _, rfl⟩ <;> omega
  have hpl : placeF n st z = if 0 ≤ nf n st c 0 then some ((nf n st c 0).toNat, false) else (rowF st.S n 1).map fun p => (64 * p, true) := by unfold placeF; rw [if_neg (by omega), hoc]
  have hlt : k / b < n ↔ k < n * b := by
    rw [Nat.div_lt_iff_lt_mul (by omega)]
  rcases nxr_cases (fr n st c) (64 * n) 0 with ⟨e1, e2⟩ | ⟨i, e1, e2, e3, e4, e5⟩
  · have e1' : nf n st c 0 = -1 := e1
    rw [e1', if_neg (by omega)] at hpl
    have hk0 : k < n * b → k % b = 0 := by
      intro hk
      by_cases e : k % b = 0
      · exact e
      · exfalso
        have hpn := hlt.2 hk
        have := e2 (64 * (k / b) + k % b * w) (Nat.zero_le _) (by omega)
        have hyes : fr n st c (64 * (k / b) + k % b * w) = true := (fillS_fr hc h).2 ⟨by omega, by rw [n4, n6], by rw [n4]; exact n7, by rw [n3]; omega, by rw [n3, n4, n5]; omega⟩
        rw [hyes] at this; cases this
    refine ⟨fun hk => ?_, fun hk => ?_⟩
    · have h0 := hk0 hk
      have hpn := hlt.2 hk
      rw [hpl, rowF_of (p := k / b) (Nat.le_refl 1) (by omega) (allF_iff.2 fun j j1 j2 => ?_) (fun q hq => not_all (Nat.le_refl q) (by omega) ?_)]
      · simp [h0]
      · have : j = k / b := by omega
        subst this
        rw [h.1 _ hpn, if_neg (by have := n9 h0; omega)]; rfl
      · rw [h.1 q (by omega), if_pos ((cls_page hc).2.2.2 hq)]; rfl
    · rw [hpl, rowF_no (fun q hq => not_all (Nat.le_refl q) (by omega) ?_)]
      · rfl
      · rw [h.1 q (by omega), if_pos ((cls_page hc).2.2.2 (by have := mt hlt.1 hk; omega))]; rfl
  · have e1' : nf n st c 0 = (i : Int) := e1
    rw [e1', if_pos (by omega)] at hpl
    simp only [Int.toNat_natCast] at hpl
    obtain ⟨g1, g2, g3, g4, g5⟩ := (fillS_fr hc h).1 e4
    obtain ⟨l1, l2⟩ := cls_least hc g2 g3 g4 g5
    have hpn : k / b < n := by
      by_cases e : k / b < n
      · exact e
      · exfalso
        omega
    have hie : i = 64 * (k / b) + k % b * w := by
      by_cases e : i = 64 * (k / b) + k % b * w
      · exact e
      · exfalso
        have hyes : fr n st c (64 * (k / b) + k % b * w) = true := (fillS_fr hc h).2 ⟨by omega, by rw [n4, n6], by rw [n4]; exact n7, by rw [n3]; omega, by rw [n3, n4, n5]; omega⟩
        have := e5 _ (Nat.zero_le _) (by omega : 64 * (k / b) + k % b * w < i)
        rw [hyes] at this; cases this
    refine ⟨fun hk => ?_, fun hk => absurd (hlt.1 hpn) hk⟩
    rw [hpl, hie]
    simp [l2]
theorem fillS_next {z kd t : Int} (hz : z ≤ 32) (hoc : ofV z = c) (hc : ClsN c w b) (hf : fitsB kd z = true) (h : FillS n c w b k st) (hk : k < n * b) : FillS n c w b (k + 1) (takeF n st (64 * (k / b) + k % b * w) (decide (k % b = 0)) kd z t) := by
  obtain ⟨n1, n2, n3, n4, n5, n6, n7, n8, n9⟩ := cls_nums hc k
  have hk2 := fits_size hf
  have hb : 1 ≤ b := by rcases hc with ⟨_, _, rfl⟩ | ⟨_, _, rfl⟩ | ⟨_, _, rfl⟩ | ⟨_, _, rfl⟩ | ⟨_, _, rfl⟩ | ⟨_, _, rfl⟩ | ⟨_, _, rfl⟩ | ⟨_, _, rfl⟩ <;> omega
  have hpn : k / b < n := (Nat.div_lt_iff_lt_mul (by omega)).2 hk
  refine ⟨fun p hp => ?_, fun a => ?_⟩
  · show takeS st (64 * (k / b) + k % b * w) (decide (k % b = 0)) z p = _
    unfold takeS
    rw [if_neg (by omega), n3]
    obtain ⟨q1, q2, q3, q4⟩ := cls_page hc (k := k) (p := p)
    by_cases h0 : k % b = 0
    · rw [show decide (k % b = 0) = true from by simp [h0], if_pos rfl]
      unfold setC
      by_cases e : p = k / b
      · rw [if_pos e, if_pos (by rw [e, n9 h0]; omega), hoc]
      · rw [if_neg e, h.1 p hp]
        by_cases e2 : p * b < k
        · rw [if_pos e2, if_pos (by omega)]
        · rw [if_neg e2, if_neg (fun h3 => by rcases q1.1 h3 with h4 | h4; exact e2 h4; exact e (q2 h4).1)]
    · rw [show decide (k % b = 0) = false from by simp [h0], if_neg (by simp), h.1 p hp]
      by_cases e2 : p * b < k
      · rw [if_pos e2, if_pos (by omega)]
      · rw [if_neg e2, if_neg (fun h3 => by rcases q1.1 h3 with h4 | h4; exact e2 h4; exact h0 (q2 h4).2)]
  · show hasB (putO st.O (64 * (k / b) + k % b * w) (kd, z, serOf st kd, t) a) = _
    rw [hasB_put]
    by_cases e : a = 64 * (k / b) + k % b * w
    · rw [if_pos e, e, n3, n4, n5, show hasB (kd, z, serOf st kd, t) = true from by unfold hasB; simp; omega, (startB_iff hc _).2 ⟨n6, n7⟩]
      rw [show decide (64 * (k / b) + k % b * w < 64 * n) = true from by simp; omega, show decide (k / b * b + k % b < k + 1) = true from by simp; omega]
      rfl
    · rw [if_neg e, h.2 a]
      by_cases e2 : startB c (a % 64) = true
      · have : decide (a / 64 * b + a % 64 / w < k) = decide (a / 64 * b + a % 64 / w < k + 1) := by
          obtain ⟨s1, s2⟩ := (startB_iff hc _).1 e2
          have : a / 64 * b + a % 64 / w ≠ k := fun h3 => e (cls_same hc s1 s2 h3)
          simp only [decide_eq_decide]; omega
        rw [this]
      · have : startB c (a % 64) = false := by simpa using e2
        rw [this]; simp
end
section
variable {n k r : Nat} {st : Sp}
theorem fillR_place {z : Int} (hz : 32 < z) (hr : ((z + 63) / 64).toNat = r) (h1 : 1 ≤ r) (h : FillR n r k st) :
    (r * k + r ≤ n → placeF n st z = some (64 * (r * k), false)) ∧ (¬ r * k + r ≤ n → placeF n st z = none) := by
  have hpl : placeF n st z = (rowF st.S n r).map fun p => (64 * p, false) := by unfold placeF; rw [if_pos hz, hr]
  have hno : ∀ q, q < n → q < r * k → freeB (st.S q) = false := fun q h1 h2 => by
    rw [h.1 q h1, if_pos h2]
    split <;> rfl
  refine ⟨fun hk => ?_, fun hk => ?_⟩
  · rw [hpl, rowF_of (p := r * k) h1 hk (allF_iff.2 fun j j1 j2 => ?_) (fun q hq => not_all (Nat.le_refl q) (by omega) (hno q (by omega) hq))]
    · rfl
    · rw [h.1 j (by omega), if_neg (by omega)]; rfl
  · rw [hpl, rowF_no (fun q hq => not_all (Nat.le_refl q) (by omega) (hno q (by omega) (by omega)))]
    rfl
theorem mod_next {p r m : Nat} (h1 : 1 ≤ r) (hm : m % r = 0) : ((p < m + r ∧ ¬ p < m ∧ p % r = 0) → p = m) ∧ (m < p → p < m + r → p % r ≠ 0) := by
  have key : ∀ p, m ≤ p → p < m + r → p % r = p - m := fun p a b => by
    obtain ⟨d, rfl⟩ : ∃ d, p = m + d := ⟨p - m, by omega⟩
    rw [Nat.add_mod, hm, Nat.zero_add, Nat.mod_mod, Nat.mod_eq_of_lt (by omega)]
    omega
  refine ⟨fun ⟨a, b, c⟩ => ?_, fun a b => ?_⟩
  · rw [key p (by omega) a] at c; omega
  · rw [key p (by omega) b]; omega
theorem fillR_next {z kd t : Int} (hz : 32 < z) (hr : ((z + 63) / 64).toNat = r) (h1 : 1 ≤ r) (hf : fitsB kd z = true) (h : FillR n r k st) (hk : r * k + r ≤ n) : FillR n r (k + 1) (takeF n st (64 * (r * k)) false kd z t) := by
  have hk2 := fits_size hf
  have hs : r * (k + 1) = r * k + r := Nat.mul_succ r k
  have hm : (r * k) % r = 0 := Nat.mul_mod_right r k
  obtain ⟨m, hmm⟩ : ∃ m, r * k = m := ⟨_, rfl⟩
  unfold FillR at h ⊢
  rw [hs]
  rw [hmm] at h hk hm ⊢
  refine ⟨fun p hp => ?_, fun a => ?_⟩
  · show takeS st (64 * m) false z p = _
    unfold takeS
    rw [if_pos hz, hr, show 64 * m / 64 = m from by omega]
    unfold setR
    by_cases e : p = m
    · rw [if_pos e, e, if_pos (by omega), if_pos hm]
    · rw [if_neg e]
      by_cases e2 : m < p ∧ p < m + r
      · rw [if_pos e2, if_pos e2.2, if_neg ((mod_next h1 hm).2 e2.1 e2.2)]
      · rw [if_neg e2, h.1 p hp]
        by_cases e3 : p < m
        · have e4 : p < m + r := by omega
          rw [if_pos e3, if_pos e4]
        · rw [if_neg e3, if_neg (by omega)]
  · show hasB (putO st.O (64 * m) (kd, z, serOf st kd, t) a) = _
    rw [hasB_put]
    by_cases e : a = 64 * m
    · rw [if_pos e, show hasB (kd, z, serOf st kd, t) = true from by unfold hasB; simp; omega, e, show 64 * m / 64 = m from by omega, hm]
      simp; omega
    · rw [if_neg e, h.2 a]
      by_cases e2 : a % 64 = 0 ∧ a / 64 % r = 0
      · have : decide (a / 64 < m) = decide (a / 64 < m + r) := by
          simp only [decide_eq_decide]
          constructor
          · intro; omega
          · intro h3
            by_cases h4 : a / 64 < m
            · exact h4
            · exfalso
              have := (mod_next h1 hm).1 ⟨h3, h4, e2.2⟩
              omega
        rw [this]
      · by_cases e3 : a % 64 = 0
        · have : ¬ a / 64 % r = 0 := fun h => e2 ⟨e3, h⟩
          simp [e3, this]
        · simp [e3]
end
/-- the most of one size -/
def mostN (n : Nat) (z : Int) : Nat := if 32 < z then n / ((z + 63) / 64).toNat else n * (64 / wN (ofV z))
/-- k of them stand there -/
def Fill (n : Nat) (z : Int) (k : Nat) (st : Sp) : Prop := if 32 < z then FillR n ((z + 63) / 64).toNat k st else FillS n (ofV z) (wN (ofV z)) (64 / wN (ofV z)) k st
theorem cls_of {z : Int} (h1 : 1 ≤ z) (h2 : z ≤ 32) : ClsN (ofV z) (wN (ofV z)) (64 / wN (ofV z)) := by
  obtain ⟨c0, c7, _⟩ := of_small h1 h2
  obtain ⟨c, hc⟩ : ∃ c, ofV z = c := ⟨_, rfl⟩
  rw [hc] at c0 c7 ⊢
  have : c = 0 ∨ c = 1 ∨ c = 2 ∨ c = 3 ∨ c = 4 ∨ c = 5 ∨ c = 6 ∨ c = 7 := by omega
  rcases this with rfl | rfl | rfl | rfl | rfl | rfl | rfl | rfl <;> (unfold ClsN; decide)
theorem fits3 {z : Int} (h1 : 1 ≤ z) (h2 : z ≤ 1024) : fitsB 3 z = true := by
  have m : mo 3 = 1023 := rfl
  have m2 : wd 3 = 1 := rfl
  refine fitsB_iff.2 ⟨by decide, by rw [m2]; omega, by rw [part_not4 (by omega), m, m2]; omega, .inl (by omega)⟩
theorem fill_step {n k : Nat} {z : Int} {st : Sp} (z1 : 1 ≤ z) (z2 : z ≤ 1024) (hi : Inv n st) (hR : Rt n st) (h : Fill n z k st) :
    (k < mostN n z → ∃ (a : Nat) (st' : Sp), alF n st 3 z 0 = ((a : Int), 0, 0, st') ∧ Inv n st' ∧ Rt n st' ∧ Fill n z (k + 1) st' ∧ st'.last = st.last + 1 ∧
      usedTo (rawOf n st') (64 * n) = usedTo (rawOf n st) (64 * n) + roomN z ∧ freedTo (rawOf n st') (fun _ => false) (64 * n) = freedTo (rawOf n st) (fun _ => false) (64 * n) + 1) ∧
    (¬ k < mostN n z → alF n st 3 z 0 = (0, 20, 0, st) ∧ placeF n st z = none) := by
  have hf := fits3 z1 z2
  have hpl : (k < mostN n z → ∃ a fresh, placeF n st z = some (a, fresh) ∧ Fill n z (k + 1) (takeF n st a fresh 3 z 0)) ∧ (¬ k < mostN n z → placeF n st z = none) := by
    unfold mostN Fill at *
    by_cases h32 : 32 < z
    · simp only [if_pos h32] at h ⊢
      have hr := run_k h32 z2
      obtain ⟨r, hrr⟩ : ∃ r, ((z + 63) / 64).toNat = r := ⟨_, rfl⟩
      rw [hrr] at h hr ⊢
      have hd : k < n / r ↔ r * k + r ≤ n := by
        rw [← Nat.mul_succ, show (k < n / r) = (k + 1 ≤ n / r) from rfl, Nat.le_div_iff_mul_le (by omega), Nat.mul_comm]
      obtain ⟨p1, p2⟩ := fillR_place h32 hrr hr.1 h
      exact ⟨fun hk => ⟨_, _, p1 (hd.1 hk), fillR_next h32 hrr hr.1 hf h (hd.1 hk)⟩, fun hk => p2 (fun e => hk (hd.2 e))⟩
    · simp only [if_neg h32] at h ⊢
      have hc := cls_of z1 (by omega)
      obtain ⟨p1, p2⟩ := fillS_place (z := z) (by omega) rfl hc h
      exact ⟨fun hk => ⟨_, _, p1 hk, fillS_next (by omega) rfl hc hf h hk⟩, p2⟩
  refine ⟨fun hk => ?_, fun hk => ?_⟩
  · obtain ⟨a, fresh, e1, e2⟩ := hpl.1 hk
    rcases al_right (t := 0) hi hR hf with ⟨h1, _⟩ | ⟨a', fresh', h1, h2, h3, h4, h5, h6, h7⟩
    · rw [e1] at h1; cases h1
    · rw [e1] at h1
      cases h1
      obtain ⟨c1, c2⟩ := take_counts (fresh := fresh) (t := 0) hf h7 h5
      exact ⟨a, _, h2, h3, h4, e2, rfl, c1, c2⟩
  · rcases al_right (t := 0) hi hR hf with ⟨h1, h2⟩ | ⟨a', fresh', h1, h2, h3, h4, h5, h6, h7⟩
    · exact ⟨h2, h1⟩
    · rw [hpl.2 hk] at h1; cases h1
end Go.Proofs.YtjbbkeoolodeaabDoor
namespace Go.Proofs.YtjbbkeoolodeaabDoor
open Go.RowKit
set_option linter.unusedVariables false
set_option linter.unusedSimpArgs false

theorem used_bare {n : Nat} {st : Sp} (h : Bare n st) (p : Nat) : usedTo (rawOf n st) p = 0 :=
  used_to (p := 0) (Nat.zero_le _) fun j _ _ => by show ob n st j = false; unfold ob; rw [h.2 j]; simp
theorem freed_bare {n : Nat} {st : Sp} (h : Bare n st) (p : Nat) : freedTo (rawOf n st) (fun _ => false) p = 0 :=
  (drop_to (n := n) (p := 0) (Nat.zero_le _) fun j _ _ => by show ob n st j = false; unfold ob; rw [h.2 j]; simp).2
theorem bare_new (n : Nat) : Bare n newSp := ⟨fun _ _ => rfl, fun _ => rfl⟩
theorem bare_fill {n : Nat} {st : Sp} (h : Bare n st) (z : Int) : Fill n z 0 st := by
  unfold Fill
  split
  · exact bare_R h _
  · exact bare_S h _ _ _
theorem bare_keep {n : Nat} {st : Sp} (hi : Inv n st) : Bare n (keepSp n st []) ∧ (keepSp n st []).last = st.last := by
  obtain ⟨e1, e2, e3⟩ := ln_parts n (kpSp1 n st (kpS [])) 8
  have hO : (keepSp n st []).O = fun _ => noB := by
    refine e2.trans ?_
    show kpO st (kpS []) = _
    rw [kp_nil]; funext a; unfold kpO; rw [if_neg (by simp)]
  refine ⟨⟨fun p hp => ?_, fun a => by rw [hO]; rfl⟩, e3⟩
  have hS : (keepSp n st []).S = dlS (kpS1 n st (fun _ => false)) (ob n { st with O := kpO st (fun _ => false) }) n := by
    refine e1.trans ?_
    rw [kp_nil]; rfl
  have hP : ∀ j, ob n { st with O := kpO st (fun _ => false) } j = false := fun j => by
    unfold ob; rw [kp_has]; simp
  have hgone : ∀ h k : Nat, h < n → st.S h = (2, 0, (k : Int)) → ∀ q, h ≤ q → q < h + k → goneP (rawOf n st) (fun _ => false) (64 * n) q = true := by
    intro h k h1 h2 q q1 q2
    have hh := hi.heads h h1 (by rw [h2])
    obtain ⟨_, _, i3⟩ := hi.objs (64 * h) hh
    rw [show 64 * h / 64 = h from by omega] at i3
    rcases i3 with ⟨_, i4, _⟩ | ⟨i4, _, i5⟩
    · rw [h2] at i4; simp at i4
    · rw [h2] at i5
      have i6 : (k : Int) = ((st.O (64 * h)).2.1 + 63) / 64 := by simp at i5; exact i5
      have hPh : (rawOf n st).P (64 * h) = true := by show ob n st (64 * h) = true; rw [ob_has hi]; exact hh
      obtain ⟨b, hb⟩ := told_of st (64 * h) hPh
      obtain ⟨rfl, _⟩ := obM_of hb
      exact goneP_iff.2 ⟨64 * h, _, by omega, by unfold goneB; rw [hPh]; rfl, hb, i4, by omega, by omega⟩
  rw [hS]
  unfold dlS
  have hc : cntR (ob n { st with O := kpO st (fun _ => false) }) (64 * p) (64 * p + 64) = 0 := by
    unfold cntR
    exact cnt_zero fun j _ => by rw [hP]; simp
  unfold bareB
  rw [hc]
  cases hg : goneP (rawOf n st) (fun _ => false) (64 * n) p with
  | true =>
    have : kpS1 n st (fun _ => false) p = (0, 0, 0) := by unfold kpS1; rw [if_pos hg]
    rw [this]; simp
  | false =>
    have hk : kpS1 n st (fun _ => false) p = st.S p := by unfold kpS1; rw [if_neg (by rw [hg]; simp)]
    rw [hk]
    rcases hi.good p hp with e | ⟨c, _, _, e⟩ | ⟨k, k1, _, _, e, _⟩ | ⟨e, h, k, h1, h2, h3⟩
    · rw [e]; simp
    · rw [e]; simp [hp]
    · have := hgone p k hp e p (Nat.le_refl _) (by omega)
      rw [hg] at this; cases this
    · have := hgone h k (by omega) h3 p (by omega) h2
      rw [hg] at this; cases this
/-- where there is no place, it does not fit -/
theorem fits_no {n : Nat} {st : Sp} {z : Int} (z1 : 1 ≤ z) (z2 : z ≤ 1024) (h : placeF n st z = none) : plAll n (rawOf n st) st.S (fun _ => 0) (fun _ => 0) [z] = false := by
  have hT : (plT n (rawOf n st) st.S (fun _ => 0) (fun _ => 0) z).1 = false := by
    unfold plT
    by_cases h32 : 32 < z
    · have hp : pagesV z = (z + 63) / 64 := by unfold pagesV; rw [if_pos ⟨h32, z2⟩]
      have hk := run_k h32 z2
      rw [if_pos (by rw [hp]; omega), hp]
      have hr : rowF st.S n ((z + 63) / 64).toNat = none := by
        unfold placeF at h
        rw [if_pos h32] at h
        cases e : rowF st.S n ((z + 63) / 64).toNat with
        | none => rfl
        | some p => rw [e] at h; cases h
      show (trE st.S n ((z + 63) / 64) == 0) = false
      unfold trE
      rw [hr]
      cases runB ((z + 63) / 64) <;> simp
    · have hp : ¬ 0 < pagesV z := by unfold pagesV; rw [if_neg (by omega)]; omega
      have hc := of_small z1 (by omega)
      rw [if_neg hp, if_pos hc.1]
      unfold placeF at h
      rw [if_neg h32] at h
      have hnf : ¬ 0 ≤ nf n st (ofV z) 0 := fun e => by rw [if_pos e] at h; cases h
      rw [if_neg hnf] at h
      have hr : rowF st.S n 1 = none := by
        cases e : rowF st.S n 1 with
        | none => rfl
        | some p => rw [e] at h; cases h
      unfold plB
      rw [if_neg (by show ¬ (0 : Int) < 0; omega), if_neg (by
        show ¬ 0 ≤ nxr (fr n st (((ofV z).toNat : Nat) : Int)) (64 * n) 0
        rw [show (((ofV z).toNat : Nat) : Int) = ofV z from by omega]; exact hnf)]
      rw [if_neg]
      unfold tcE
      rw [hr]
      cases classB (((ofV z).toNat : Nat) : Int) <;> simp
  unfold plAll
  rw [hT]; rfl
/-- the quotients: kernel's arithmetic -/
def useOk (n u : Nat) : Bool := match useQ n u with | some v => FloatKind.f64.format.order v v == some .eq | none => false
theorem use_tab : ((List.range 13).all fun n => n == 0 || (useOk n (60 * n) && ((List.range (n + 1)).all fun j => useOk n (64 * j)))) = true := by decide +kernel
theorem use_some {n u : Nat} (h1 : 1 ≤ n) (h2 : n ≤ 12) (hu : u = 60 * n ∨ ∃ j, j ≤ n ∧ u = 64 * j) : ∃ v, useQ n u = some v ∧ FloatKind.f64.format.order v v = some .eq := by
  have h := use_tab
  rw [List.all_eq_true] at h
  have h3 := h n (by simp; omega)
  rw [show (n == 0) = false from by simp; omega, Bool.false_or, Bool.and_eq_true, List.all_eq_true] at h3
  have h4 : useOk n u = true := by
    rcases hu with rfl | ⟨j, hj, rfl⟩
    · exact h3.1
    · exact h3.2 j (by simp; omega)
  unfold useOk at h4
  cases e : useQ n u with
  | none => rw [e] at h4; cases h4
  | some v => rw [e] at h4; exact ⟨v, rfl, by simpa using h4⟩
theorem use_zero' : ((List.range 13).all fun n => n == 0 || useQ n 0 == some 0) = true := by decide +kernel
theorem use_zero {n : Nat} (h1 : 1 ≤ n) (h2 : n ≤ 12) : useQ n 0 = some 0 := by
  have h := use_zero'
  rw [List.all_eq_true] at h
  have h3 := h n (by simp; omega)
  rw [show (n == 0) = false from by simp; omega, Bool.false_or] at h3
  simpa using h3
theorem order_zero : FloatKind.f64.format.order 0 0 = some .eq := by decide +kernel
/-- the words of as many as the pages hold -/
theorem most_room {n : Nat} {z : Int} (z1 : 1 ≤ z) (z2 : z ≤ 1024) : mostN n z * roomN z = 60 * n ∨ ∃ j, j ≤ n ∧ mostN n z * roomN z = 64 * j := by
  unfold mostN
  by_cases h : 32 < z
  · have hk := run_k h z2
    rw [if_pos h, room_great h]
    generalize ((z + 63) / 64).toNat = r at *
    right
    refine ⟨n / r * r, Nat.div_mul_le_self n r, ?_⟩
    rw [Nat.mul_comm r 64, ← Nat.mul_assoc, Nat.mul_right_comm, Nat.mul_comm]
  · rw [if_neg h, room_small (by omega)]
    have hc := cls_of z1 (by omega)
    generalize wN (ofV z) = w at *
    rcases hc with ⟨_, rfl, _⟩ | ⟨_, rfl, _⟩ | ⟨_, rfl, _⟩ | ⟨_, rfl, _⟩ | ⟨_, rfl, _⟩ | ⟨_, rfl, _⟩ | ⟨_, rfl, _⟩ | ⟨_, rfl, _⟩
    all_goals first | (left; omega) | (right; exact ⟨n, Nat.le_refl _, by omega⟩)
end Go.Proofs.YtjbbkeoolodeaabDoor
