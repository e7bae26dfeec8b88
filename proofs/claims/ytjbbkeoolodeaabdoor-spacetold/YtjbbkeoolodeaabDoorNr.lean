import Derived.Test.YtjbbkeoolodeaabDoorNu
import Derived.Test.YtjbbkeoolodeaabDoorNt
import Derived.Test.YtjbbkeoolodeaabDoorNh
namespace Go.Proofs.YtjbbkeoolodeaabDoor
open Go.RowKit
set_option linter.unusedVariables false
set_option linter.unusedSimpArgs false

/-- one of the first i objects stands there -/
def tdO (l : List (Nat × Blk)) (a : Nat) : Nat → Bool
  | 0 => false
  | i + 1 => tdO l a i || ((atB l i).1 == a)
theorem tdO_iff {l : List (Nat × Blk)} {a : Nat} : ∀ i, tdO l a i = true ↔ ∃ j, j < i ∧ (atB l j).1 = a
  | 0 => by simp [tdO]
  | i + 1 => by
    have ih := tdO_iff (l := l) (a := a) i
    unfold tdO
    rw [Bool.or_eq_true, ih]
    constructor
    · rintro (⟨j, j1, j2⟩ | h)
      · exact ⟨j, by omega, j2⟩
      · exact ⟨i, Nat.lt_succ_self _, by simpa using h⟩
    · rintro ⟨j, j1, j2⟩
      by_cases e : j = i
      · subst e; right; simpa using j2
      · exact .inl ⟨j, by omega, j2⟩
/-- a free block of one of the first c classes stands there -/
def tdF (n : Nat) (st : Sp) (a : Nat) : Nat → Bool
  | 0 => false
  | c + 1 => tdF n st a c || fr n st (c : Int) a
def tdI (L : List Int) (a : Nat) (i : Nat) : Bool := (L.take i).contains (a : Int)
theorem tdI_zero (L : List Int) (a : Nat) : tdI L a 0 = false := by simp [tdI]
theorem tdI_succ {L : List Int} {a i : Nat} {x : Int} (h : L[i]? = some x) : tdI L a (i + 1) = (tdI L a i || (x == (a : Int))) := by
  unfold tdI
  rw [List.take_add_one, h]
  rw [Bool.eq_iff_iff]
  simp only [Option.toList_some, Bool.or_eq_true, List.contains_iff_mem, List.mem_append, List.mem_singleton, beq_iff_eq]
  constructor
  · rintro (h | h)
    · exact .inl h
    · exact .inr h.symm
  · rintro (h | h)
    · exact .inl h
    · exact .inr h.symm
section
variable {n : Nat} {st : Sp} {l : List (Nat × Blk)}
theorem td_all (h : ObL st l) (a : Nat) : tdO l a l.length = hasB (st.O a) := by
  rw [Bool.eq_iff_iff, tdO_iff]
  constructor
  · rintro ⟨j, j1, rfl⟩
    exact (obl_at h j1).2
  · intro ho
    obtain ⟨q, hq, he⟩ := List.mem_map.1 (h.2.2 a ho)
    obtain ⟨i, hi, hqi⟩ := List.getElem_of_mem hq
    have e : atB l i = q := by unfold atB; rw [List.getElem?_eq_getElem hi, hqi]; rfl
    exact ⟨i, hi, by rw [e]; exact he⟩
theorem tdI_all {c a : Nat} (ha : a < 64 * n) : tdI (frL n st (c : Int) (64 * n)) a (frL n st (c : Int) (64 * n)).length = fr n st (c : Int) a := by
  unfold tdI
  rw [List.take_length, Bool.eq_iff_iff, List.contains_iff_mem, frL_mem]
  constructor
  · rintro ⟨j, _, j2, j3⟩
    have : j = a := by omega
    rw [← this]; exact j2
  · intro h
    exact ⟨a, ha, h, rfl⟩
/-- a space in which one word was turned -/
def turnR (n : Nat) (st : Sp) (a : Nat) (x : Int) : Raw := { rawOf n st with W := updW st.W a x }
theorem turn_poke {a : Nat} (ha : a < 64 * n) (x : Int) : { rawOf n st with W := pokeW n (rawOf n st).W (a : Int) x } = turnR n st a x := by
  unfold turnR pokeW
  rw [if_pos (by unfold inB; simp; omega)]
  rfl
theorem turn_far {a : Nat} {x y : Int} {b : Int} (hb : inB (64 * n) b = false) : { turnR n st a x with W := pokeW n (turnR n st a x).W b y } = turnR n st a x := by
  unfold pokeW
  rw [hb]
  rfl
theorem turn_back {a : Nat} (ha : a < 64 * n) (x : Int) : { turnR n st a x with W := pokeW n (turnR n st a x).W (a : Int) (st.W a) } = rawOf n st := by
  unfold turnR pokeW
  rw [if_pos (by unfold inB; simp; omega)]
  have : updW (updW st.W a x) a (st.W a) = st.W := by
    funext i
    unfold updW
    by_cases e : i = a
    · rw [if_pos e, e]
    · rw [if_neg e, if_neg e]
  show (⟨updW (updW st.W a x) (a : Int).toNat (st.W a), _, _, _, _, _, _⟩ : Raw) = rawOf n st
  rw [show ((a : Nat) : Int).toNat = a from by omega, this]
  rfl
theorem turn_told (a : Nat) (x : Int) : Told (turnR n st a x) := told_of st
theorem turn_in (hI : Inv n st) (a : Nat) (x : Int) : InArena n (turnR n st a x) := inArena hI
theorem hd_turn (hI : Inv n st) (hR : Rt n st) {a : Nat} (x : Int) (k : Nat) : hdBad (turnR n st a x) k = (decide (k = a) && hasB (st.O a) && !(x == st.W a)) := by
  by_cases e : k = a
  · subst e
    unfold hdBad
    have hP : (turnR n st k x).P k = hasB (st.O k) := ob_has hI k
    rw [hP]
    cases hb : hasB (st.O k) with
    | false => simp
    | true =>
      obtain ⟨b, hM⟩ := told_of (n := n) st k (by show ob n st k = true; rw [ob_has hI]; exact hb)
      obtain ⟨rfl, _⟩ := obM_of hM
      have hM' : (turnR n st k x).M (k : Int) = some (st.O ((k : Int).toNat)) := hM
      rw [hM']
      have hW : (turnR n st k x).W k = x := by show updW st.W k x k = x; unfold updW; rw [if_pos rfl]
      have := hR.2 k hb
      rw [show ((k : Nat) : Int).toNat = k from by omega]
      simp only [hW]
      rw [← this]
      simp
  · have h0 := hd_none hI hR k
    have hW : (turnR n st a x).W k = (rawOf n st).W k := by show updW st.W a x k = st.W k; unfold updW; rw [if_neg e]
    have : hdBad (turnR n st a x) k = hdBad (rawOf n st) k := by
      unfold hdBad
      rw [hW]
      rfl
    rw [this, h0]
    simp [e]
theorem lk_turn (hR : Rt n st) {a : Nat} (x : Int) (c k : Nat) : lkBad n (turnR n st a x) c k = (decide (k = a) && fr n st (c : Int) a && !(x == st.W a)) := by
  by_cases e : k = a
  · subst e
    unfold lkBad
    have hF : (turnR n st k x).F c k = fr n st (c : Int) k := rfl
    rw [hF]
    cases hf : fr n st (c : Int) k with
    | false => simp
    | true =>
      have hW : (turnR n st k x).W k = x := by show updW st.W k x k = x; unfold updW; rw [if_pos rfl]
      have := hR.1 (c : Int) k hf
      rw [hW, this]
      simp
      rfl
  · have h0 := lk_none hR c k
    have hW : (turnR n st a x).W k = (rawOf n st).W k := by show updW st.W a x k = st.W k; unfold updW; rw [if_neg e]
    have : lkBad n (turnR n st a x) c k = lkBad n (rawOf n st) c k := by
      unfold lkBad
      rw [hW]
      rfl
    rw [this, h0]
    simp [e]
theorem wr_turn (hI : Inv n st) (hR : Rt n st) {a : Nat} (x : Int) (k : Nat) : ∀ c, wrTo n (turnR n st a x) c k = (decide (k = a) && (hasB (st.O a) || tdF n st a c) && !(x == st.W a))
  | 0 => by
    show hdBad (turnR n st a x) k = _
    rw [hd_turn hI hR]
    simp [tdF]
  | c + 1 => by
    show (wrTo n (turnR n st a x) c k || lkBad n (turnR n st a x) c k) = _
    rw [wr_turn hI hR x k c, lk_turn hR]
    show _ = (decide (k = a) && (hasB (st.O a) || (tdF n st a c || fr n st (c : Int) a)) && !(x == st.W a))
    cases decide (k = a) <;> cases hasB (st.O a) <;> cases tdF n st a c <;> cases fr n st (c : Int) a <;> cases (x == st.W a) <;> rfl
theorem wrong_turn (hI : Inv n st) (hR : Rt n st) {a : Nat} (ha : a < 64 * n) (x : Int) : nxr (wrTo n (turnR n st a x) 8) (64 * n) 0 = if (hasB (st.O a) || tdF n st a 8) = true ∧ x ≠ st.W a then (a : Int) else -1 := by
  by_cases h : (hasB (st.O a) || tdF n st a 8) = true ∧ x ≠ st.W a
  · rw [if_pos h]
    have hat : wrTo n (turnR n st a x) 8 a = true := by rw [wr_turn hI hR, h.1]; simp [h.2]
    rcases nxr_cases (wrTo n (turnR n st a x) 8) (64 * n) 0 with ⟨_, e⟩ | ⟨i, e, _, _, e2, _⟩
    · rw [e a (Nat.zero_le _) ha] at hat; cases hat
    · rw [wr_turn hI hR] at e2
      simp only [Bool.and_eq_true, decide_eq_true_eq] at e2
      rw [e, e2.1.1]
  · rw [if_neg h]
    rcases nxr_cases (wrTo n (turnR n st a x) 8) (64 * n) 0 with ⟨e, _⟩ | ⟨i, _, _, _, e2, _⟩
    · exact e
    · rw [wr_turn hI hR] at e2
      simp only [Bool.and_eq_true, decide_eq_true_eq, Bool.not_eq_true', beq_eq_false_iff_ne] at e2
      exact absurd ⟨e2.1.2, e2.2⟩ h
/-- what Check and Read answer at the turned word -/
theorem chk_turn (hI : Inv n st) (hR : Rt n st) {a : Nat} (x : Int) : (hasB (st.O a) = false ∧ chkE (turnR n st a x) (a : Int) = 22 ∧ chkA (turnR n st a x) (a : Int) = 0 ∧ ∀ i, wrdE (turnR n st a x) (a : Int) i = 22) ∨
    (hasB (st.O a) = true ∧ x ≠ st.W a ∧ chkE (turnR n st a x) (a : Int) = 21 ∧ chkA (turnR n st a x) (a : Int) = a ∧ ∀ i, wrdE (turnR n st a x) (a : Int) i = 21) ∨
    (hasB (st.O a) = true ∧ x = st.W a ∧ chkE (turnR n st a x) (a : Int) = 0 ∧ chkA (turnR n st a x) (a : Int) = 0) := by
  have hM : (turnR n st a x).M (a : Int) = if hasB (st.O a) = true then some (st.O a) else none := by
    show obM st (a : Int) = _
    unfold obM
    rw [show ((a : Nat) : Int).toNat = a from by omega]
    by_cases e : hasB (st.O a) = true
    · rw [if_pos ⟨by omega, e⟩, if_pos e]
    · rw [if_neg (fun h => e h.2), if_neg e]
  have hW : (turnR n st a x).W a = x := by show updW st.W a x a = x; unfold updW; rw [if_pos rfl]
  cases hb : hasB (st.O a) with
  | false =>
    rw [hb, if_neg (by decide)] at hM
    left
    unfold chkE chkA wrdE
    rw [hM]
    exact ⟨rfl, rfl, rfl, fun _ => rfl⟩
  | true =>
    rw [hb, if_pos rfl] at hM
    right
    have hw := hR.2 a hb
    unfold chkE chkA wrdE
    rw [hM, show ((a : Nat) : Int).toNat = a from by omega]
    simp only [hW, ← hw]
    by_cases e : x = st.W a
    · right
      exact ⟨trivial, e, by rw [if_pos e], by rw [if_pos e]⟩
    · left
      exact ⟨trivial, e, by rw [if_neg e], by rw [if_neg e], fun _ => by rw [if_neg e]⟩
end
theorem wrong_is {w : World} {lo hi n cap : Nat} {s : Nat → Nat} {r : Raw} (h : RawAt w lo hi s n cap r) (hT : Told r) {v : Int} (hv : nxr (wrTo n r 8) (64 * n) 0 = v) :
    Calls Tryd.prog 17 #[.pointer (some ⟨s 14, 0, none⟩)] w fun e w' => e = .returned (.int .i64 v) ∧ Out 0 0 w w' := by
  rw [← hv]; exact wrong_any h hT
section
variable {w : World} {lo hi n cap : Nat} {s : Nat → Nat} {st : Sp}
theorem in_at {a : Nat} (ha : a < 64 * n) : inB (64 * n) (a : Int) = true := by unfold inB; simp; omega
theorem peek_in (h : RawAt w lo hi s n cap (rawOf n st)) {a : Nat} (ha : a < 64 * n) : Calls Tryd.prog 22 #[.pointer (some ⟨s 14, 0, none⟩), .int .i64 (a : Int)] w fun e w' => e = .returned (.tuple #[.int .i64 (st.W a), .bool true]) ∧ w' = w := by
  have := peek_any h (a : Int)
  unfold peekV at this
  rw [in_at ha, if_pos rfl] at this
  exact this
theorem poke_in (h : RawAt w lo hi s n cap (rawOf n st)) {a : Nat} (ha : a < 64 * n) (x : Int) : Calls Tryd.prog 23 #[.pointer (some ⟨s 14, 0, none⟩), .int .i64 (a : Int), .int .i64 x] w fun e w' => e = .returned (.bool true) ∧ RawAt w' lo hi s n cap (turnR n st a x) ∧ Out lo hi w w' := by
  have := poke_any h (a : Int) x
  rw [in_at ha, turn_poke ha] at this
  exact this
theorem poke_far {a : Nat} {x : Int} (h : RawAt w lo hi s n cap (turnR n st a x)) {b : Int} (hb : inB (64 * n) b = false) (y : Int) : Calls Tryd.prog 23 #[.pointer (some ⟨s 14, 0, none⟩), .int .i64 b, .int .i64 y] w fun e w' => e = .returned (.bool false) ∧ RawAt w' lo hi s n cap (turnR n st a x) ∧ Out lo hi w w' := by
  have := poke_any h b y
  rw [hb, turn_far hb] at this
  exact this
theorem poke_back {a : Nat} {x : Int} (h : RawAt w lo hi s n cap (turnR n st a x)) (ha : a < 64 * n) : Calls Tryd.prog 23 #[.pointer (some ⟨s 14, 0, none⟩), .int .i64 (a : Int), .int .i64 (st.W a)] w fun e w' => e = .returned (.bool true) ∧ RawAt w' lo hi s n cap (rawOf n st) ∧ Out lo hi w w' := by
  have := poke_any h (a : Int) (st.W a)
  rw [in_at ha, turn_back ha] at this
  exact this
end
end Go.Proofs.YtjbbkeoolodeaabDoor
