/- programs as bytes: where reading looks -/
import Derived.Test.YtghlbdmldahnlaaGreatDoorUb
namespace Go.Proofs.YtghlbdmldahnlaaGreatDoor
set_option linter.unusedVariables false
set_option linter.unusedSimpArgs false

/-- what is read hangs on the bytes that were gone over alone; what is cut off ends there; what is wrong is so by nine bytes, and ends there if it is cut off ahead of it -/
def Good {α : Type} (R : Rd α) : Prop := ∀ (bs : List Int) (a : Nat), a ≤ bs.length →
  (∀ v e, R bs a = .inr (v, e) → a ≤ e ∧ e ≤ bs.length ∧ (∀ bs', e ≤ bs'.length → bs'.take e = bs.take e → R bs' a = .inr (v, e)) ∧ ∀ n, a ≤ n → n < e → R (bs.take n) a = .inl (61, n)) ∧
  ∀ x q, R bs a = .inl (x, q) → (x = 61 ∧ q = bs.length) ∨ (x = 60 ∧ a ≤ q ∧ q < bs.length ∧ R (bs.take q) a = .inl (61, q) ∧ ∀ bs', bs'.length = bs.length → bs'.take (q + 9) = bs.take (q + 9) → R bs' a = .inl (60, q))
def Part {α : Type} (R : Rd α) : Prop := Good R ∧ ∀ (bs : List Int) (a : Nat) v e, R bs a = .inr (v, e) → a < e ∧ e ≤ a + 9
theorem take_mono {l m : List Int} {i j : Nat} (h : l.take j = m.take j) (hij : i ≤ j) : l.take i = m.take i := by
  have := congrArg (List.take i) h
  rwa [List.take_take, List.take_take, Nat.min_eq_left hij] at this
theorem Good.pure {α : Type} (v : α) : Good (pureR v) := fun bs a ha =>
  ⟨fun u e h => by cases h; exact ⟨Nat.le_refl _, ha, fun _ _ _ => rfl, fun n h1 h2 => by omega⟩, fun x q h => by cases h⟩
theorem Good.bnd {α β : Type} {R : Rd α} {S : α → Rd β} (hR : Good R) (hS : ∀ v, Good (S v)) : Good (bndR R S) := by
  intro bs a ha
  obtain ⟨r1, r2⟩ := hR bs a ha
  constructor
  · intro u e h
    rcases bnd_inv h with ⟨x, _, hx⟩ | ⟨v, e1, h1, h2⟩
    · cases hx
    obtain ⟨a1, a2, a3, a4⟩ := r1 v e1 h1
    obtain ⟨b1, b2, b3, b4⟩ := (hS v bs e1 a2).1 u e h2
    refine ⟨by omega, b2, fun bs' hl ht => ?_, fun n hn1 hn2 => ?_⟩
    · rw [bnd_ok (a3 bs' (by omega) (take_mono ht (by omega)))]
      exact b3 bs' hl ht
    · by_cases hn : n < e1
      · exact bnd_err (a4 n hn1 hn)
      · rw [bnd_ok (a3 (bs.take n) (by rw [List.length_take]; omega) (by rw [List.take_take, Nat.min_eq_left (by omega)]))]
        exact b4 n (by omega) hn2
  · intro x q h
    rcases bnd_inv h with ⟨y, hy, hx⟩ | ⟨v, e1, h1, h2⟩
    · cases hx
      rcases r2 x q hy with c | ⟨c1, c2, c3, c4, c5⟩
      · exact .inl c
      · exact .inr ⟨c1, c2, c3, bnd_err c4, fun bs' hl ht => bnd_err (c5 bs' hl ht)⟩
    · obtain ⟨a1, a2, a3, a4⟩ := r1 v e1 h1
      rcases (hS v bs e1 a2).2 x q h2 with c | ⟨c1, c2, c3, c4, c5⟩
      · exact .inl c
      · refine .inr ⟨c1, by omega, c3, ?_, fun bs' hl ht => ?_⟩
        · rw [bnd_ok (a3 (bs.take q) (by rw [List.length_take]; omega) (by rw [List.take_take, Nat.min_eq_left (by omega)]))]
          exact c4
        · rw [bnd_ok (a3 bs' (by omega) (take_mono ht (by omega)))]
          exact c5 bs' hl ht
theorem Part.chk {α : Type} {R : Rd α} (hR : Part R) (ok : α → Prop) : Part (chkR R ok) := by
  obtain ⟨hG, hP⟩ := hR
  constructor
  · intro bs a ha
    obtain ⟨r1, r2⟩ := hG bs a ha
    constructor
    · intro u e h
      rcases chk_inv h with ⟨x, _, hx⟩ | ⟨v, e1, h1, hv, hx⟩ | ⟨v, e1, h1, hv, hx⟩
      · cases hx
      · cases hx
        obtain ⟨a1, a2, a3, a4⟩ := r1 u e h1
        exact ⟨a1, a2, fun bs' hl ht => chk_ok (a3 bs' hl ht) hv, fun n h1 h2 => chk_err (a4 n h1 h2)⟩
      · cases hx
    · intro x q h
      rcases chk_inv h with ⟨y, hy, hx⟩ | ⟨v, e1, h1, hv, hx⟩ | ⟨v, e1, h1, hv, hx⟩
      · cases hx
        rcases r2 x q hy with c | ⟨c1, c2, c3, c4, c5⟩
        · exact .inl c
        · exact .inr ⟨c1, c2, c3, chk_err c4, fun bs' hl ht => chk_err (c5 bs' hl ht)⟩
      · cases hx
      · cases hx
        obtain ⟨a1, a2, a3, a4⟩ := r1 v e1 h1
        have := hP bs a v e1 h1
        refine .inr ⟨rfl, Nat.le_refl _, by omega, chk_err (a4 a (Nat.le_refl _) this.1), fun bs' hl ht => ?_⟩
        exact chk_no (a3 bs' (by omega) (take_mono ht (by omega))) hv
  · intro bs a v e h
    rcases chk_inv h with ⟨x, _, hx⟩ | ⟨u, e1, h1, hv, hx⟩ | ⟨u, e1, h1, hv, hx⟩
    · cases hx
    · cases hx; exact hP bs a v e h1
    · cases hx
theorem drop_take_eq {l m : List Int} {a n : Nat} (h : l.take (a + n) = m.take (a + n)) : (l.drop a).take n = (m.drop a).take n := by
  have := congrArg (List.drop a) h
  rwa [List.drop_take, List.drop_take, Nat.add_sub_cancel_left] at this
theorem Good.take (n : Nat) : Good (takeR n) := by
  intro bs a ha
  constructor
  · intro v e h
    by_cases hn : a + n ≤ bs.length
    · rw [take_ok hn] at h
      cases h
      refine ⟨by omega, hn, fun bs' hl ht => ?_, fun m h1 h2 => ?_⟩
      · rw [take_ok (by omega), drop_take_eq ht]
      · rw [take_err (by rw [List.length_take]; omega) (by rw [List.length_take]; omega), List.length_take, Nat.min_eq_left (by omega)]
    · rw [take_err (by omega) ha] at h; cases h
  · intro x q h
    by_cases hn : a + n ≤ bs.length
    · rw [take_ok hn] at h; cases h
    · rw [take_err (by omega) ha] at h; cases h; exact .inl ⟨rfl, rfl⟩
theorem Part.take1 : Part (takeR 1) := ⟨Good.take 1, fun bs a v e h => by
  unfold takeR at h
  split at h <;> cases h
  omega⟩
theorem row_ok {bs : List Int} {a : Nat} (h1 : lead 9 (bs.drop a) < 9) (h2 : lead 9 (bs.drop a) < bs.length - a) : rowR bs a = .inr ((bs.drop a).take (lead 9 (bs.drop a) + 1), a + (lead 9 (bs.drop a) + 1)) := if_pos ⟨h1, h2⟩
theorem row_end {bs : List Int} {a : Nat} (h1 : ¬ (lead 9 (bs.drop a) < 9 ∧ lead 9 (bs.drop a) < bs.length - a)) (h2 : bs.length - a < 9) : rowR bs a = .inl (61, bs.length) := by
  unfold rowR; rw [if_neg h1, if_pos h2]
theorem row_bad {bs : List Int} {a : Nat} (h1 : ¬ (lead 9 (bs.drop a) < 9 ∧ lead 9 (bs.drop a) < bs.length - a)) (h2 : 9 ≤ bs.length - a) : rowR bs a = .inl (60, a) := by
  unfold rowR; rw [if_neg h1, if_neg (by omega)]
/-- the same first bytes, the same lead -/
theorem lead_same {l m : List Int} {j : Nat} (hj : lead 9 l = j) (h1 : j < 9) (h2 : j < l.length) (h : l.take (j + 1) = m.take (j + 1)) : lead 9 m = j := by
  have hat : ∀ i, i < j + 1 → m[i]? = l[i]? := fun i hi => by
    have := congrArg (fun x : List Int => x[i]?) h
    simp only [List.getElem?_take, if_pos hi] at this
    exact this.symm
  have hl : j < m.length := by
    have := hat j (by omega)
    rw [List.getElem?_eq_getElem h2] at this
    exact (List.getElem?_eq_some_iff.1 this).1
  refine lead_is 9 m j (by omega) (by omega) (fun i b hi hb => lead_ge 9 l i b (by omega) (by rw [← hat i (by omega)]; exact hb)) (.inr (.inr ⟨l[j], by rw [hat j (by omega)]; exact List.getElem?_eq_getElem h2, ?_⟩))
  exact lead_at 9 l _ (by omega) (by rw [hj]; exact List.getElem?_eq_getElem h2)
theorem Part.row : Part rowR := by
  constructor
  · intro bs a ha
    have hle := lead_le 9 (bs.drop a)
    rw [List.length_drop] at hle
    constructor
    · intro v e h
      by_cases h1 : lead 9 (bs.drop a) < 9 ∧ lead 9 (bs.drop a) < bs.length - a
      · rw [row_ok h1.1 h1.2] at h
        cases h
        refine ⟨by omega, by omega, fun bs' hl ht => ?_, fun m h3 h4 => ?_⟩
        · have hd := drop_take_eq ht
          have := lead_same (l := bs.drop a) (m := bs'.drop a) rfl h1.1 (by rw [List.length_drop]; exact h1.2) hd.symm
          rw [row_ok (by omega) (by omega), this, hd]
        · have hl : (bs.take m).length = m := by rw [List.length_take]; omega
          have hk : lead 9 ((bs.take m).drop a) = m - a := by
            rw [List.drop_take]
            refine lead_is 9 _ (m - a) (by omega) (by rw [List.length_take, List.length_drop]; omega) (fun i b hi hb => ?_) (.inr (.inl ?_))
            · rw [List.getElem?_take, if_pos hi] at hb
              exact lead_ge 9 (bs.drop a) i b (by omega) hb
            · rw [List.length_take, List.length_drop]; omega
          rw [row_end (by rw [hk, hl]; omega) (by rw [hl]; omega), hl]
      · by_cases h2 : bs.length - a < 9
        · rw [row_end h1 h2] at h; cases h
        · rw [row_bad h1 (by omega)] at h; cases h
    · intro x q h
      by_cases h1 : lead 9 (bs.drop a) < 9 ∧ lead 9 (bs.drop a) < bs.length - a
      · rw [row_ok h1.1 h1.2] at h; cases h
      · by_cases h2 : bs.length - a < 9
        · rw [row_end h1 h2] at h; cases h; exact .inl ⟨rfl, rfl⟩
        · rw [row_bad h1 (by omega)] at h
          cases h
          have h9 : lead 9 (bs.drop a) = 9 := by omega
          refine .inr ⟨rfl, Nat.le_refl _, by omega, ?_, fun bs' hl ht => ?_⟩
          · have hl : (bs.take a).length = a := by rw [List.length_take]; omega
            rw [row_end (by rw [hl]; omega) (by rw [hl]; omega), hl]
          · have hd := drop_take_eq ht
            have hk : lead 9 (bs'.drop a) = 9 := by
              refine lead_is 9 _ 9 (by omega) (by rw [List.length_drop]; omega) (fun i b hi hb => ?_) (.inl rfl)
              refine lead_ge 9 (bs.drop a) i b (by omega) ?_
              have := congrArg (fun x : List Int => x[i]?) hd
              simp only [List.getElem?_take, if_pos hi] at this
              rw [← this]; exact hb
            rw [row_bad (by omega) (by omega)]
  · intro bs a v e h
    unfold rowR at h
    split at h
    · cases h; omega
    · split at h <;> cases h
theorem Good.num (lo hi : Nat) : Good (numR lo hi) := (Part.row.chk _).1.bnd fun _ => Good.pure _
theorem Good.rep {α : Type} {R : Rd α} (h : Good R) : ∀ n, Good (repR n R)
  | 0 => Good.pure _
  | n + 1 => h.bnd fun _ => (Good.rep h n).bnd fun _ => Good.pure _
theorem Good.op : Good opR := (Part.take1.chk _).1.bnd fun _ => Good.pure _
theorem Good.arg (op : Int) : Good (argR op) := by
  unfold argR
  split
  · exact (Good.num _ _).bnd fun _ => Good.pure _
  split
  · exact (Good.num _ _).bnd fun _ => Good.pure _
  split
  · exact (Good.take _).bnd fun _ => Good.pure _
  · exact Good.pure _
theorem Good.ins : Good insR := Good.op.bnd Good.arg
theorem Good.txt : Good txtR := (Good.num _ _).bnd Good.take
theorem Good.fun_ : Good funR := (Good.num _ _).bnd fun _ => (Good.num _ _).bnd fun _ => (Good.num _ _).bnd fun _ => (Good.num _ _).bnd fun _ => (Good.rep Good.ins _).bnd fun _ => Good.pure _
theorem Good.mag : ∀ l, Good (magR l)
  | [] => Good.pure _
  | c :: l => (Part.take1.chk _).1.bnd fun _ => Good.mag l
theorem Good.prg : Good prgR := (Good.mag _).bnd fun _ => (Good.num _ _).bnd fun _ => (Good.num _ _).bnd fun _ => (Good.rep Good.txt _).bnd fun _ => (Good.num _ _).bnd fun _ => (Good.rep Good.fun_ _).bnd fun _ => Good.pure _
end Go.Proofs.YtghlbdmldahnlaaGreatDoor
