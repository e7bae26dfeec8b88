import Derived.Test.YtcnjlbjpeklgkaaGreatDoorR00
namespace Go.Proofs.YtcnjlbjpeklgkaaGreatDoor
set_option linter.unusedVariables false
set_option linter.unusedSimpArgs false

/-- what is read hangs on the bytes that were gone over alone; what is cut off ends there; what is wrong is so by nine bytes, and ends there if it is cut off ahead of it -/
def Good {α : Type} (R : Rd α) : Prop := ∀ (bs : List Int) (a : Nat), a ≤ bs.length →
  (∀ v e, R bs a = .inr (v, e) → a ≤ e ∧ e ≤ bs.length ∧ (∀ bs', e ≤ bs'.length → bs'.take e = bs.take e → R bs' a = .inr (v, e)) ∧ ∀ n, a ≤ n → n < e → R (bs.take n) a = .inl (61, n)) ∧
  ∀ x q, R bs a = .inl (x, q) → (x = 61 ∧ q = bs.length) ∨ (x = 60 ∧ a ≤ q ∧ q < bs.length ∧ R (bs.take q) a = .inl (61, q) ∧ ∀ bs', bs'.length = bs.length → bs'.take (q + 9) = bs.take (q + 9) → R bs' a = .inl (60, q))
def Part {α : Type} (R : Rd α) : Prop := Good R ∧ ∀ (bs : List Int) (a : Nat) v e, R bs a = .inr (v, e) → a < e ∧ e ≤ a + 9
theorem take_mono {l m : List Int} {i j : Nat} (h : l.take j = m.take j) (hij : i ≤ j) : l.take i = m.take i := by
  have := congrArg (List.take i) h
  rwa [List.take_take, List.take_take, Nat.min_eq_left hij] at this
theorem Good.pure {α : Type} (v : α) : Good (pureR v) := fun bs a ha =>
  ⟨fun u e h => by cases h; exact ⟨Nat.le_refl _, ha, fun _ _ _ => rfl, fun n h1 h2 => by omega⟩, fun x q h => by cases h⟩
theorem Good.bnd {α β : Type} {R : Rd α} {S : α → Rd β} (hR : Good R) (hS : ∀ v, Good (S v)) : Good (bndR R S) := by
  intro bs a ha
  obtain ⟨r1, r2⟩ := hR bs a ha
  constructor
  · intro u e h
    rcases bnd_inv h with ⟨x, _, hx⟩ | ⟨v, e1, h1, h2⟩
    · cases hx
    obtain ⟨a1, a2, a3, a4⟩ := r1 v e1 h1
    obtain ⟨b1, b2, b3, b4⟩ := (hS v bs e1 a2).1 u e h2
    refine ⟨by omega, b2, fun bs' hl ht => ?_, fun n hn1 hn2 => ?_⟩
    · rw [bnd_ok (a3 bs' (by omega) (take_mono ht (by omega)))]
      exact b3 bs' hl ht
    · by_cases hn : n < e1
      · exact bnd_err (a4 n hn1 hn)
      · rw [bnd_ok (a3 (bs.take n) (by rw [List.length_take]; omega) (by rw [List.take_take, Nat.min_eq_left (by omega)]))]
        exact b4 n (by omega) hn2
  · intro x q h
    rcases bnd_inv h with ⟨y, hy, hx⟩ | ⟨v, e1, h1, h2⟩
    · cases hx
      rcases r2 x q hy with c | ⟨c1, c2, c3, c4, c5⟩
      · exact .inl c
      · exact .inr ⟨c1, c2, c3, bnd_err c4, fun bs' hl ht => bnd_err (c5 bs' hl ht)⟩
    · obtain ⟨a1, a2, a3, a4⟩ := r1 v e1 h1
      rcases (hS v bs e1 a2).2 x q h2 with c | ⟨c1, c2, c3, c4, c5⟩
      · exact .inl c
      · refine .inr ⟨c1, by omega, c3, ?_, fun bs' hl ht => ?_⟩
        · rw [bnd_ok (a3 (bs.take q) (by rw [List.length_take]; omega) (by rw [List.take_take, Nat.min_eq_left (by omega)]))]
          exact c4
        · rw [bnd_ok (a3 bs' (by omega) (take_mono ht (by omega)))]
          exact c5 bs' hl ht
theorem Part.chk {α : Type} {R : Rd α} (hR : Part R) (ok : α → Prop) : Part (chkR R ok) := by
  obtain ⟨hG, hP⟩ := hR
  constructor
  · intro bs a ha
    obtain ⟨r1, r2⟩ := hG bs a ha
    constructor
    · intro u e h
      rcases chk_inv h with ⟨x, _, hx⟩ | ⟨v, e1, h1, hv, hx⟩ | ⟨v, e1, h1, hv, hx⟩
      · cases hx
      · cases hx
        obtain ⟨a1, a2, a3, a4⟩ := r1 u e h1
        exact ⟨a1, a2, fun bs' hl ht => chk_ok (a3 bs' hl ht) hv, fun n h1 h2 => chk_err (a4 n h1 h2)⟩
      · cases hx
    · intro x q h
      rcases chk_inv h with ⟨y, hy, hx⟩ | ⟨v, e1, h1, hv, hx⟩ | ⟨v, e1, h1, hv, hx⟩
      · cases hx
        rcases r2 x q hy with c | ⟨c1, c2, c3, c4, c5⟩
        · exact .inl c
        · exact .inr ⟨c1, c2, c3, chk_err c4, fun bs' hl ht => chk_err (c5 bs' hl ht)⟩
      · cases hx
      · cases hx
        obtain ⟨a1, a2, a3, a4⟩ := r1 v e1 h1
        have := hP bs a v e1 h1
        refine .inr ⟨rfl, Nat.le_refl _, by omega, chk_err (a4 a (Nat.le_refl _) this.1), fun bs' hl ht => ?_⟩
        exact chk_no (a3 bs' (by omega) (take_mono ht (by omega))) hv
  · intro bs a v e h
    rcases chk_inv h with ⟨x, _, hx⟩ | ⟨u, e1, h1, hv, hx⟩ | ⟨u, e1, h1, hv, hx⟩
    · cases hx
    · cases hx; exact hP bs a v e h1
    · cases hx
theorem drop_take_eq {l m : List Int} {a n : Nat} (h : l.take (a + n) = m.take (a + n)) : (l.drop a).take n = (m.drop a).take n := by
  have := congrArg (List.drop a) h
  rwa [List.drop_take, List.drop_take, Nat.add_sub_cancel_left] at this
theorem Good.take (n : Nat) : Good (takeR n) := by
  intro bs a ha
  constructor
  · intro v e h
    by_cases hn : a + n ≤ bs.length
    · rw [take_ok hn] at h
      cases h
      refine ⟨by omega, hn, fun bs' hl ht => ?_, fun m h1 h2 => ?_⟩
      · rw [take_ok (by omega), drop_take_eq ht]
      · rw [take_err (by rw [List.length_take]; omega) (by rw [List.length_take]; omega), List.length_take, Nat.min_eq_left (by omega)]
    · rw [take_err (by omega) ha] at h; cases h
  · intro x q h
    by_cases hn : a + n ≤ bs.length
    · rw [take_ok hn] at h; cases h
    · rw [take_err (by omega) ha] at h; cases h; exact .inl ⟨rfl, rfl⟩
theorem Part.take1 : Part (takeR 1) := ⟨Good.take 1, fun bs a v e h => by
  unfold takeR at h
  split at h <;> cases h
  omega⟩
theorem row_ok {bs : List Int} {a : Nat} (h1 : lead 9 (bs.drop a) < 9) (h2 : lead 9 (bs.drop a) < bs.length - a) : rowR bs a = .inr ((bs.drop a).take (lead 9 (bs.drop a) + 1), a + (lead 9 (bs.drop a) + 1)) := if_pos ⟨h1, h2⟩
theorem row_end {bs : List Int} {a : Nat} (h1 : ¬ (lead 9 (bs.drop a) < 9 ∧ lead 9 (bs.drop a) < bs.length - a)) (h2 : bs.length - a < 9) : rowR bs a = .inl (61, bs.length) := by
  unfold rowR; rw [if_neg h1, if_pos h2]
theorem row_bad {bs : List Int} {a : Nat} (h1 : ¬ (lead 9 (bs.drop a) < 9 ∧ lead 9 (bs.drop a) < bs.length - a)) (h2 : 9 ≤ bs.length - a) : rowR bs a = .inl (60, a) := by
  unfold rowR; rw [if_neg h1, if_neg (by omega)]
/-- the same first bytes, the same lead -/
theorem lead_same {l m : List Int} {j : Nat} (hj : lead 9 l = j) (h1 : j < 9) (h2 : j < l.length) (h : l.take (j + 1) = m.take (j + 1)) : lead 9 m = j := by
  have hat : ∀ i, i < j + 1 → m[i]? = l[i]? := fun i hi => by
    have := congrArg (fun x : List Int => x[i]?) h
    simp only [List.getElem?_take, if_pos hi] at this
    exact this.symm
  have hl : j < m.length := by
    have := hat j (by omega)
    rw [List.getElem?_eq_getElem h2] at this
    exact (List.getElem?_eq_some_iff.1 this).1
  refine lead_is 9 m j (by omega) (by omega) (fun i b hi hb => lead_ge 9 l i b (by omega) (by rw [← hat i (by omega)]; exact hb)) (.inr (.inr ⟨l[j], by rw [hat j (by omega)]; exact List.getElem?_eq_getElem h2, ?_⟩))
  exact lead_at 9 l _ (by omega) (by rw [hj]; exact List.getElem?_eq_getElem h2)
theorem Part.row : Part rowR := by
  constructor
  · intro bs a ha
    have hle := lead_le 9 (bs.drop a)
    rw [List.length_drop] at hle
    constructor
    · intro v e h
      by_cases h1 : lead 9 (bs.drop a) < 9 ∧ lead 9 (bs.drop a) < bs.length - a
      · rw [row_ok h1.1 h1.2] at h
        cases h
        refine ⟨by omega, by omega, fun bs' hl ht => ?_, fun m h3 h4 => ?_⟩
        · have hd := drop_take_eq ht
          have := lead_same (l := bs.drop a) (m := bs'.drop a) rfl h1.1 (by rw [List.length_drop]; exact h1.2) hd.symm
          rw [row_ok (by omega) (by omega), this, hd]
        · have hl : (bs.take m).length = m := by rw [List.length_take]; omega
          have hk : lead 9 ((bs.take m).drop a) = m - a := by
            rw [List.drop_take]
            refine lead_is 9 _ (m - a) (by omega) (by rw [List.length_take, List.length_drop]; omega) (fun i b hi hb => ?_) (.inr (.inl ?_))
            · rw [List.getElem?_take, if_pos hi] at hb
              exact lead_ge 9 (bs.drop a) i b (by omega) hb
            · rw [List.length_take, List.length_drop]; omega
          rw [row_end (by rw [hk, hl]; omega) (by rw [hl]; omega), hl]
      · by_cases h2 : bs.length - a < 9
        · rw [row_end h1 h2] at h; cases h
        · rw [row_bad h1 (by omega)] at h; cases h
    · intro x q h
      by_cases h1 : lead 9 (bs.drop a) < 9 ∧ lead 9 (bs.drop a) < bs.length - a
      · rw [row_ok h1.1 h1.2] at h; cases h
      · by_cases h2 : bs.length - a < 9
        · rw [row_end h1 h2] at h; cases h; exact .inl ⟨rfl, rfl⟩
        · rw [row_bad h1 (by omega)] at h
          cases h
          have h9 : lead 9 (bs.drop a) = 9 := by omega
          refine .inr ⟨rfl, Nat.le_refl _, by omega, ?_, fun bs' hl ht => ?_⟩
          · have hl : (bs.take a).length = a := by rw [List.length_take]; omega
            rw [row_end (by rw [hl]; omega) (by rw [hl]; omega), hl]
          · have hd := drop_take_eq ht
            have hk : lead 9 (bs'.drop a) = 9 := by
              refine lead_is 9 _ 9 (by omega) (by rw [List.length_drop]; omega) (fun i b hi hb => ?_) (.inl rfl)
              refine lead_ge 9 (bs.drop a) i b (by omega) ?_
              have := congrArg (fun x : List Int => x[i]?) hd
              simp only [List.getElem?_take, if_pos hi] at this
              rw [← this]; exact hb
            rw [row_bad (by omega) (by omega)]
  · intro bs a v e h
    unfold rowR at h
    split at h
    · cases h; omega
    · split at h <;> cases h
theorem Good.num (lo hi : Nat) : Good (numR lo hi) := (Part.row.chk _).1.bnd fun _ => Good.pure _
theorem Good.rep {α : Type} {R : Rd α} (h : Good R) : ∀ n, Good (repR n R)
  | 0 => Good.pure _
  | n + 1 => h.bnd fun _ => (Good.rep h n).bnd fun _ => Good.pure _
theorem Good.op : Good opR := (Part.take1.chk _).1.bnd fun _ => Good.pure _
theorem Good.arg (op : Int) : Good (argR op) := by
  unfold argR
  split
  · exact (Good.num _ _).bnd fun _ => Good.pure _
  split
  · exact (Good.num _ _).bnd fun _ => Good.pure _
  split
  · exact (Good.take _).bnd fun _ => Good.pure _
  · exact Good.pure _
theorem Good.ins : Good insR := Good.op.bnd Good.arg
theorem Good.txt : Good txtR := (Good.num _ _).bnd Good.take
theorem Good.fun_ : Good funR := (Good.num _ _).bnd fun _ => (Good.num _ _).bnd fun _ => (Good.num _ _).bnd fun _ => (Good.num _ _).bnd fun _ => (Good.rep Good.ins _).bnd fun _ => Good.pure _
theorem Good.mag : ∀ l, Good (magR l)
  | [] => Good.pure _
  | c :: l => (Part.take1.chk _).1.bnd fun _ => Good.mag l
theorem Good.prg : Good prgR := (Good.mag _).bnd fun _ => (Good.num _ _).bnd fun _ => (Good.num _ _).bnd fun _ => (Good.rep Good.txt _).bnd fun _ => (Good.num _ _).bnd fun _ => (Good.rep Good.fun_ _).bnd fun _ => Good.pure _
end Go.Proofs.YtcnjlbjpeklgkaaGreatDoor
namespace Go.Proofs.YtcnjlbjpeklgkaaGreatDoor
set_option linter.unusedVariables false
set_option linter.unusedSimpArgs false

def At (bs : List Int) (a : Nat) (l : List Int) : Prop := a ≤ bs.length ∧ bs.drop a = l
theorem At.next {bs x post : List Int} {a : Nat} (h : At bs a (x ++ post)) : At bs (a + x.length) post := by
  obtain ⟨h1, h2⟩ := h
  have hl := congrArg List.length h2
  rw [List.length_drop, List.length_append] at hl
  refine ⟨by omega, ?_⟩
  rw [← List.drop_drop, h2, List.drop_left]
theorem At.len {bs l : List Int} {a : Nat} (h : At bs a l) : bs.length = a + l.length := by
  obtain ⟨h1, h2⟩ := h
  have hl := congrArg List.length h2
  rw [List.length_drop] at hl
  omega
def Comp {α : Type} (R : Rd α) (ok : α → Prop) (enc : α → List Int) : Prop := ∀ bs a v post, ok v → At bs a (enc v ++ post) → R bs a = .inr (v, a + (enc v).length)
def Snd {α : Type} (R : Rd α) (ok : α → Prop) (enc : α → List Int) : Prop := ∀ bs a v e, Byt bs → a ≤ bs.length → R bs a = .inr (v, e) → ok v ∧ e = a + (enc v).length ∧ ∃ post, At bs a (enc v ++ post)
theorem valN_num (n : Nat) : valN (numB n) = n := by
  induction n using Nat.strongRecOn with
  | _ n ih =>
    by_cases h : n < 128
    · rw [numB_lt h]; simp only [valN]; omega
    · rw [numB_ge (by omega)]
      simp only [valN, ih (n / 128) (by omega)]
      omega
theorem num_last (n : Nat) : (numB n).length = 1 ∨ (numB n).getLast? ≠ some 0 := by
  induction n using Nat.strongRecOn with
  | _ n ih =>
    by_cases h : n < 128
    · rw [numB_lt h]; exact .inl rfl
    · right
      rw [numB_ge (by omega)]
      have hne := numB_ne (n / 128)
      rw [List.getLast?_cons, List.getLast?_eq_some_getLast hne]
      simp only [Option.getD_some]
      rcases ih (n / 128) (by omega) with h1 | h1
      · by_cases h2 : n / 128 < 128
        · simp only [numB_lt h2]
          simp; omega
        · rw [numB_ge (by omega), List.length_cons] at h1
          have := numB_ne (n / 128 / 128)
          exact absurd (List.eq_nil_of_length_eq_zero (by omega)) this
      · rw [List.getLast?_eq_some_getLast hne] at h1
        exact h1
theorem lead_num (n : Nat) : ∀ (k : Nat) (post : List Int), (numB n).length ≤ k → lead k (numB n ++ post) + 1 = (numB n).length := by
  induction n using Nat.strongRecOn with
  | _ n ih =>
    intro k post hk
    by_cases h : n < 128
    · rw [numB_lt h] at hk ⊢
      cases k with
      | zero => simp at hk
      | succ k => simp only [List.cons_append, lead]; rw [if_pos (by omega)]; rfl
    · rw [numB_ge (by omega)] at hk ⊢
      cases k with
      | zero => simp at hk
      | succ k =>
        simp only [List.cons_append, lead, List.length_cons] at hk ⊢
        rw [if_neg (by omega), ih (n / 128) (by omega) k post (by omega)]
theorem num_val : ∀ (r : List Int), r ≠ [] → Byt r → (∀ i b, i + 1 < r.length → r[i]? = some b → 128 ≤ b) → (∀ b, r.getLast? = some b → b < 128) → (r.length = 1 ∨ r.getLast? ≠ some 0) → numB (valN r) = r ∧ (r.getLast? ≠ some 0 → 0 < valN r)
  | [], h, _, _, _, _ => (h rfl).elim
  | [b], _, hB, _, h2, _ => by
    have := hB b (by simp)
    have := h2 b rfl
    have e : valN [b] = b.toNat := by simp only [valN]; omega
    rw [e, numB_lt (by omega)]
    refine ⟨by rw [show ((b.toNat : Nat) : Int) = b by omega], fun h => ?_⟩
    have : b ≠ 0 := fun e => h (by rw [e]; rfl)
    omega
  | b :: c :: r, _, hB, h1, h2, h3 => by
    have hb := hB b (by simp)
    have hb2 := h1 0 b (by simp) rfl
    have hl : (b :: c :: r).getLast? = (c :: r).getLast? := by simp [List.getLast?_cons]
    have h3' : (c :: r).getLast? ≠ some 0 := by
      rcases h3 with h3 | h3
      · simp at h3
      · rw [← hl]; exact h3
    obtain ⟨i1, i2⟩ := num_val (c :: r) (by simp) (fun x hx => hB x (List.mem_cons_of_mem _ hx)) (fun i x hi hx => h1 (i + 1) x (by simpa using hi) (by simpa using hx)) (fun x hx => h2 x (by rw [hl]; exact hx)) (.inr h3')
    have hp := i2 h3'
    have e : valN (b :: c :: r) = (b % 128).toNat + 128 * valN (c :: r) := rfl
    refine ⟨?_, fun _ => by rw [e]; omega⟩
    rw [numB_ge (by rw [e]; omega), show valN (b :: c :: r) / 128 = valN (c :: r) by rw [e]; omega, i1, show ((128 + valN (b :: c :: r) % 128 : Nat) : Int) = b by rw [e]; omega]
theorem Comp.num {lo hi : Nat} (hh : hi < 128 ^ 9) : Comp (numR lo hi) (fun n => lo ≤ n ∧ n ≤ hi) numB := by
  intro bs a n post hn hat
  have hlen := numB_len (k := 8) (n := n) (by have := hn.2; exact Nat.lt_of_le_of_lt this hh)
  have hld := lead_num n 9 post (by omega)
  have hL := hat.len
  rw [List.length_append] at hL
  obtain ⟨h1, h2⟩ := hat
  have hr : rowR bs a = .inr (numB n, a + (numB n).length) := by
    have hd : lead 9 (bs.drop a) + 1 = (numB n).length := by rw [h2]; exact hld
    rw [row_ok (by omega) (by omega), hd, h2, List.take_left]
  unfold numR
  rw [bnd_ok (chk_ok hr ⟨num_last n, by rw [valN_num]; exact hn⟩), valN_num]
  rfl
theorem Byt.take {l : List Int} (h : Byt l) (n : Nat) : Byt (l.take n) := fun b hb => h b (List.mem_of_mem_take hb)
theorem Byt.drop {l : List Int} (h : Byt l) (n : Nat) : Byt (l.drop n) := fun b hb => h b (List.mem_of_mem_drop hb)
theorem Snd.num {lo hi : Nat} : Snd (numR lo hi) (fun n => lo ≤ n ∧ n ≤ hi) numB := by
  intro bs a n e hB ha h
  rcases bnd_inv h with ⟨x, _, hx⟩ | ⟨row, e1, hr, hp⟩
  · cases hx
  cases hp
  rcases chk_inv hr with ⟨x, _, hx⟩ | ⟨row', e1', hr', hok, hx⟩ | ⟨row', e1', _, _, hx⟩
  · cases hx
  · cases hx
    have hle := lead_le 9 (bs.drop a)
    rw [List.length_drop] at hle
    by_cases h1 : lead 9 (bs.drop a) < 9 ∧ lead 9 (bs.drop a) < bs.length - a
    · rw [row_ok h1.1 h1.2] at hr'
      cases hr'
      have hl : ((bs.drop a).take (lead 9 (bs.drop a) + 1)).length = lead 9 (bs.drop a) + 1 := by rw [List.length_take, List.length_drop]; omega
      have hk : numB (valN ((bs.drop a).take (lead 9 (bs.drop a) + 1))) = (bs.drop a).take (lead 9 (bs.drop a) + 1) := by
        refine (num_val _ (fun e => by rw [e] at hl; simp at hl) ((hB.drop a).take _) (fun i b hi hb => ?_) (fun b hb => ?_) hok.1).1
        · rw [hl] at hi
          rw [List.getElem?_take, if_pos (by omega)] at hb
          exact lead_ge 9 _ i b (by omega) hb
        · rw [List.getLast?_eq_getElem?, hl, List.getElem?_take, if_pos (by omega)] at hb
          exact lead_at 9 _ b (by omega) hb
      refine ⟨hok.2, by rw [hk, hl], (bs.drop a).drop (lead 9 (bs.drop a) + 1), ha, ?_⟩
      rw [hk, List.take_append_drop]
    · by_cases h2 : bs.length - a < 9
      · rw [row_end h1 h2] at hr'; cases hr'
      · rw [row_bad h1 (by omega)] at hr'; cases hr'
  · cases hx
theorem at_take {bs : List Int} {a n : Nat} (h : a + n ≤ bs.length) : At bs a ((bs.drop a).take n ++ (bs.drop a).drop n) := ⟨by omega, by rw [List.take_append_drop]⟩
theorem Comp.take {bs l post : List Int} {a n : Nat} (h : At bs a (l ++ post)) (hn : l.length = n) : takeR n bs a = .inr (l, a + n) := by
  have hL := h.len
  rw [List.length_append] at hL
  rw [take_ok (by omega), h.2, ← hn, List.take_left]
theorem Snd.take {bs l : List Int} {a n e : Nat} (ha : a ≤ bs.length) (h : takeR n bs a = .inr (l, e)) : l.length = n ∧ e = a + l.length ∧ ∃ post, At bs a (l ++ post) := by
  by_cases hn : a + n ≤ bs.length
  · rw [take_ok hn] at h
    cases h
    have : ((bs.drop a).take n).length = n := by rw [List.length_take, List.length_drop]; omega
    exact ⟨this, by rw [this], _, at_take hn⟩
  · rw [take_err (by omega) ha] at h; cases h
theorem Byt.at {bs l post : List Int} {a : Nat} (hB : Byt bs) (h : At bs a (l ++ post)) : Byt l := by
  have := hB.drop a
  rw [h.2] at this
  exact fun b hb => this b (List.mem_append_left _ hb)
/-- one part behind another -/
theorem At.join {bs x y post post' : List Int} {a : Nat} (h : At bs a (x ++ post)) (g : At bs (a + x.length) (y ++ post')) : At bs a (x ++ (y ++ post')) := by
  have := h.next
  have e : post = y ++ post' := this.2.symm.trans g.2
  rw [← e]; exact h
theorem opS_le (op : Int) : opS op ≤ 4 := by
  unfold opS
  split
  · decide
  split
  · decide
  split
  · decide
  split <;> decide
theorem Comp.ins : Comp insR okI encI := by
  intro bs a x post hok hat
  obtain ⟨op, v⟩ := x
  obtain ⟨k0, k1, k2, k3, k4⟩ := hok
  have hat' : At bs a ([op] ++ (opB (op, v) ++ post)) := hat
  have ht : opR bs a = .inr (op, a + 1) := by
    have h0 : takeR 1 bs a = .inr ([op], a + 1) := Comp.take hat' rfl
    have h1 : chkR (takeR 1) (fun l => opS (l.headD 0) ≠ 0) bs a = .inr ([op], a + 1) := chk_ok h0 k0
    unfold opR
    exact (bnd_ok h1).trans rfl
  have hn : At bs (a + 1) (opB (op, v) ++ post) := hat'.next
  unfold insR
  rw [bnd_ok ht]
  show argR op bs (a + 1) = .inr ((op, v), a + ([op] ++ opB (op, v)).length)
  rw [List.length_append, ← Nat.add_assoc]
  show argR op bs (a + 1) = .inr ((op, v), a + 1 + (opB (op, v)).length)
  unfold argR
  unfold opB at hn ⊢
  dsimp only at *
  split
  · rename_i h2
    rw [if_pos h2] at hn
    rw [bnd_ok (Comp.num (lo := 0) (hi := 2097151) (by decide) bs _ v.toNat _ (by have := k2 h2; omega) hn)]
    show Sum.inr ((op, ((v.toNat : Nat) : Int)), _) = _
    rw [Int.toNat_of_nonneg (k2 h2).1]
  rename_i h2
  rw [if_neg h2] at hn
  split
  · rename_i h3
    rw [if_pos h3] at hn
    have hz : zig v ≤ 2305843009213693951 := by have := k3 h3; unfold zig; split <;> omega
    rw [bnd_ok (Comp.num (lo := 0) (hi := 2305843009213693951) (by decide) bs _ (zig v) _ ⟨Nat.zero_le _, hz⟩ hn)]
    show Sum.inr ((op, zag (zig v)), _) = _
    rw [zag_zig]
  rename_i h3
  rw [if_neg h3] at hn
  split
  · rename_i h4
    rw [if_pos h4] at hn
    have hl : (le8 v).length = 8 := by unfold le8; simp
    rw [bnd_ok (Comp.take hn hl), hl]
    show Sum.inr ((op, sg8 (le8 v)), _) = _
    rw [sg8_le8 (k4 h4).1 (k4 h4).2]
  · rename_i h4
    have h1 : opS op = 1 := by
      have := opS_le op
      omega
    have := k1 h1
    subst this
    rfl
theorem Snd.ins : Snd insR okI encI := by
  intro bs a x e hB ha h
  rcases bnd_inv h with ⟨y, _, hx⟩ | ⟨op, e1, h1, h2⟩
  · cases hx
  rcases bnd_inv h1 with ⟨y, _, hx⟩ | ⟨l, e0, h3, h4⟩
  · cases hx
  cases h4
  rcases chk_inv h3 with ⟨y, _, hx⟩ | ⟨l', e0', h5, hok, hx⟩ | ⟨l', e0', _, _, hx⟩
  · cases hx
  · cases hx
    obtain ⟨hl, he, post, hat⟩ := Snd.take ha h5
    match l, hl with
    | [op], _ =>
      subst he
      have hn := hat.next
      have hle := hn.1
      change argR op bs (a + 1) = _ at h2
      change opS op ≠ 0 at hok
      unfold argR at h2
      split at h2
      · rename_i q2
        rcases bnd_inv h2 with ⟨y, _, hx⟩ | ⟨n, e2, h6, h7⟩
        · cases hx
        cases h7
        obtain ⟨g1, g2, post2, g3⟩ := Snd.num bs _ n _ hB hle h6
        have eB : opB (op, (n : Int)) = numB n := by unfold opB; rw [if_pos q2]; rfl
        refine ⟨⟨hok, fun q => ?_, fun q => ?_, fun q => ?_, fun q => ?_⟩, ?_, post2, ?_⟩
        · change opS op = 1 at q; omega
        · dsimp only; omega
        · change opS op = 3 at q; omega
        · change opS op = 4 at q; omega
        · rw [g2]; unfold encI; rw [eB]; simp only [List.length_cons, List.length_nil]; omega
        · unfold encI; rw [eB]; exact hat.join g3
      rename_i q2
      split at h2
      · rename_i q3
        rcases bnd_inv h2 with ⟨y, _, hx⟩ | ⟨n, e2, h6, h7⟩
        · cases hx
        cases h7
        obtain ⟨g1, g2, post2, g3⟩ := Snd.num bs _ n _ hB hle h6
        have eB : opB (op, zag n) = numB n := by unfold opB; rw [if_neg q2, if_pos q3, zig_zag]
        refine ⟨⟨hok, fun q => ?_, fun q => ?_, fun q => ?_, fun q => ?_⟩, ?_, post2, ?_⟩
        · change opS op = 1 at q; omega
        · change opS op = 2 at q; omega
        · dsimp only; have := g1.2; unfold zag; split <;> omega
        · change opS op = 4 at q; omega
        · rw [g2]; unfold encI; rw [eB]; simp only [List.length_cons, List.length_nil]; omega
        · unfold encI; rw [eB]; exact hat.join g3
      rename_i q3
      split at h2
      · rename_i q4
        rcases bnd_inv h2 with ⟨y, _, hx⟩ | ⟨n, e2, h6, h7⟩
        · cases hx
        cases h7
        obtain ⟨g1, g2, post2, g3⟩ := Snd.take hle h6
        have hBn := hB.at g3
        have eB : opB (op, sg8 n) = n := by
          unfold opB
          rw [if_neg q2, if_neg q3, if_pos q4]
          match n, g1, hBn with
          | [b0, b1, b2, b3, b4, b5, b6, b7], _, hb => exact le8_sg8 hb
        refine ⟨⟨hok, fun q => ?_, fun q => ?_, fun q => ?_, fun q => sg8_wf g1 hBn⟩, ?_, post2, ?_⟩
        · change opS op = 1 at q; omega
        · change opS op = 2 at q; omega
        · change opS op = 3 at q; omega
        · rw [g2]; unfold encI; rw [eB]; simp only [List.length_cons, List.length_nil]; omega
        · unfold encI; rw [eB]; exact hat.join g3
      · rename_i q4
        cases h2
        have eB : opB (op, 0) = [] := by unfold opB; rw [if_neg q2, if_neg q3, if_neg q4]
        refine ⟨⟨hok, fun _ => rfl, fun q => ?_, fun q => ?_, fun q => ?_⟩, ?_, post, ?_⟩
        · exact absurd q q2
        · exact absurd q q3
        · exact absurd q q4
        · unfold encI; rw [eB]; rfl
        · unfold encI; rw [eB]; exact hat
  · cases hx
theorem Comp.rep {α : Type} {R : Rd α} {ok : α → Prop} {enc : α → List Int} (h : Comp R ok enc) : ∀ (vs : List α) (bs : List Int) (a : Nat) (post : List Int), (∀ v ∈ vs, ok v) → At bs a (vs.flatMap enc ++ post) → repR vs.length R bs a = .inr (vs, a + (vs.flatMap enc).length)
  | [], bs, a, post, _, _ => rfl
  | v :: vs, bs, a, post, hok, hat => by
    rw [List.flatMap_cons, List.append_assoc] at hat
    show bndR R _ bs a = _
    rw [bnd_ok (h bs a v _ (hok v (by simp)) hat), bnd_ok (Comp.rep h vs bs _ post (fun u hu => hok u (by simp [hu])) hat.next), List.flatMap_cons, List.length_append, ← Nat.add_assoc]
    rfl
theorem Snd.rep {α : Type} {R : Rd α} {ok : α → Prop} {enc : α → List Int} (h : Snd R ok enc) : ∀ (n : Nat) (bs : List Int) (a : Nat) (vs : List α) (e : Nat), Byt bs → a ≤ bs.length → repR n R bs a = .inr (vs, e) → vs.length = n ∧ (∀ v ∈ vs, ok v) ∧ e = a + (vs.flatMap enc).length ∧ ∃ post, At bs a (vs.flatMap enc ++ post)
  | 0, bs, a, vs, e, hB, ha, hr => by cases hr; exact ⟨rfl, by simp, by simp, bs.drop a, ha, by simp⟩
  | n + 1, bs, a, vs, e, hB, ha, hr => by
    rcases bnd_inv hr with ⟨x, _, hx⟩ | ⟨u, e1, hu, hs⟩
    · cases hx
    rcases bnd_inv hs with ⟨x, _, hx⟩ | ⟨us, e3, hus, hp⟩
    · cases hx
    cases hp
    obtain ⟨g1, g2, post, g3⟩ := h bs a u e1 hB ha hu
    subst g2
    obtain ⟨k1, k2, k3, post2, k4⟩ := Snd.rep h n bs _ us e hB g3.next.1 hus
    refine ⟨by simp [k1], fun v hv => ?_, by rw [k3, List.flatMap_cons, List.length_append]; omega, post2, ?_⟩
    · rcases List.mem_cons.1 hv with rfl | hv
      · exact g1
      · exact k2 v hv
    · rw [List.flatMap_cons, List.append_assoc]; exact g3.join k4
end Go.Proofs.YtcnjlbjpeklgkaaGreatDoor
