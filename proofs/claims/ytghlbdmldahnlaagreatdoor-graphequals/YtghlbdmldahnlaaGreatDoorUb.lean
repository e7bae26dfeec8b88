/- programs as bytes: reading -/
import Derived.Test.YtghlbdmldahnlaaGreatDoorUa
namespace Go.Proofs.YtghlbdmldahnlaaGreatDoor
set_option linter.unusedVariables false
set_option linter.unusedSimpArgs false

/-- what reading gives: an error and its place, or a thing and where the next part begins -/
abbrev Rd (α : Type) : Type := List Int → Nat → Sum (Int × Nat) (α × Nat)
def pureR {α : Type} (v : α) : Rd α := fun _ a => .inr (v, a)
def bndR {α β : Type} (R : Rd α) (S : α → Rd β) : Rd β := fun bs a => match R bs a with
  | .inl e => .inl e
  | .inr p => S p.1 bs p.2
/-- a part that has to be as asked: else it is wrong where it begins -/
noncomputable def chkR {α : Type} (R : Rd α) (ok : α → Prop) : Rd α := fun bs a => match R bs a with
  | .inl e => .inl e
  | .inr p => open Classical in if ok p.1 then .inr p else .inl (60, a)
def takeR (n : Nat) : Rd (List Int) := fun bs a => if n ≤ bs.length - a then .inr ((bs.drop a).take n, a + n) else .inl (61, bs.length)
/-- how many of the first bytes say that another one comes -/
def lead : Nat → List Int → Nat
  | 0, _ => 0
  | _ + 1, [] => 0
  | k + 1, b :: l => if b < 128 then 0 else lead k l + 1
def rowR : Rd (List Int) := fun bs a =>
  if lead 9 (bs.drop a) < 9 ∧ lead 9 (bs.drop a) < bs.length - a then .inr ((bs.drop a).take (lead 9 (bs.drop a) + 1), a + (lead 9 (bs.drop a) + 1))
  else if bs.length - a < 9 then .inl (61, bs.length) else .inl (60, a)
def valN : List Int → Nat
  | [] => 0
  | b :: r => (b % 128).toNat + 128 * valN r
def okRow (lo hi : Nat) (row : List Int) : Prop := (row.length = 1 ∨ row.getLast? ≠ some 0) ∧ lo ≤ valN row ∧ valN row ≤ hi
noncomputable def numR (lo hi : Nat) : Rd Nat := bndR (chkR rowR (okRow lo hi)) fun row => pureR (valN row)
def repR {α : Type} : Nat → Rd α → Rd (List α)
  | 0, _ => pureR []
  | n + 1, R => bndR R fun v => bndR (repR n R) fun vs => pureR (v :: vs)
noncomputable def opR : Rd Int := bndR (chkR (takeR 1) fun l => opS (l.headD 0) ≠ 0) fun l => pureR (l.headD 0)
noncomputable def argR (op : Int) : Rd (Int × Int) :=
  if opS op = 2 then bndR (numR 0 2097151) fun n => pureR (op, (n : Int))
  else if opS op = 3 then bndR (numR 0 2305843009213693951) fun n => pureR (op, zag n)
  else if opS op = 4 then bndR (takeR 8) fun l => pureR (op, sg8 l) else pureR (op, 0)
noncomputable def insR : Rd (Int × Int) := bndR opR argR
noncomputable def txtR : Rd (List Int) := bndR (numR 0 4096) takeR
noncomputable def funR : Rd (Int × Int × Int × List (Int × Int)) :=
  bndR (numR 0 8) fun a => bndR (numR 0 64) fun b => bndR (numR 0 64) fun c => bndR (numR 0 4096) fun n => bndR (repR n insR) fun l => pureR ((a : Int), (b : Int), (c : Int), l)
noncomputable def magR : List Int → Rd Unit
  | [] => pureR ()
  | c :: l => bndR (chkR (takeR 1) (· = [c])) fun _ => magR l
noncomputable def prgR : Rd (Int × List (List Int) × List (Int × Int × Int × List (Int × Int))) :=
  bndR (magR [104, 116, 104, 1]) fun _ => bndR (numR 0 64) fun g => bndR (numR 0 64) fun n => bndR (repR n txtR) fun ts => bndR (numR 1 64) fun m => bndR (repR m funR) fun fs => pureR ((g : Int), ts, fs)

/-! how a thing that is read goes on -/
theorem bnd_ok {α β : Type} {R : Rd α} {S : α → Rd β} {bs : List Int} {a e : Nat} {v : α} (h : R bs a = .inr (v, e)) : bndR R S bs a = S v bs e := by
  unfold bndR; rw [h]
theorem bnd_err {α β : Type} {R : Rd α} {S : α → Rd β} {bs : List Int} {a : Nat} {x : Int × Nat} (h : R bs a = .inl x) : bndR R S bs a = .inl x := by
  unfold bndR; rw [h]
theorem chk_ok {α : Type} {R : Rd α} {ok : α → Prop} {bs : List Int} {a e : Nat} {v : α} (h : R bs a = .inr (v, e)) (hv : ok v) : chkR R ok bs a = .inr (v, e) := by
  unfold chkR; rw [h]; exact if_pos hv
theorem chk_no {α : Type} {R : Rd α} {ok : α → Prop} {bs : List Int} {a e : Nat} {v : α} (h : R bs a = .inr (v, e)) (hv : ¬ ok v) : chkR R ok bs a = .inl (60, a) := by
  unfold chkR; rw [h]; exact if_neg hv
theorem chk_err {α : Type} {R : Rd α} {ok : α → Prop} {bs : List Int} {a : Nat} {x : Int × Nat} (h : R bs a = .inl x) : chkR R ok bs a = .inl x := by
  unfold chkR; rw [h]
theorem bnd_inv {α β : Type} {R : Rd α} {S : α → Rd β} {bs : List Int} {a : Nat} {y : Sum (Int × Nat) (β × Nat)} (h : bndR R S bs a = y) :
    (∃ x, R bs a = .inl x ∧ y = .inl x) ∨ ∃ v e, R bs a = .inr (v, e) ∧ S v bs e = y := by
  rcases hR : R bs a with x | ⟨v, e⟩
  · rw [bnd_err hR] at h; exact .inl ⟨x, rfl, h.symm⟩
  · rw [bnd_ok hR] at h; exact .inr ⟨v, e, rfl, h⟩
theorem chk_inv {α : Type} {R : Rd α} {ok : α → Prop} {bs : List Int} {a : Nat} {y : Sum (Int × Nat) (α × Nat)} (h : chkR R ok bs a = y) :
    (∃ x, R bs a = .inl x ∧ y = .inl x) ∨ (∃ v e, R bs a = .inr (v, e) ∧ ok v ∧ y = .inr (v, e)) ∨ ∃ v e, R bs a = .inr (v, e) ∧ ¬ ok v ∧ y = .inl (60, a) := by
  rcases hR : R bs a with x | ⟨v, e⟩
  · rw [chk_err hR] at h; exact .inl ⟨x, rfl, h.symm⟩
  · by_cases hv : ok v
    · rw [chk_ok hR hv] at h; exact .inr (.inl ⟨v, e, rfl, hv, h.symm⟩)
    · rw [chk_no hR hv] at h; exact .inr (.inr ⟨v, e, rfl, hv, h.symm⟩)
theorem rep_up {α : Type} {R : Rd α} {bs : List Int} : ∀ {i a e e2 : Nat} {vs : List α} {v : α}, repR i R bs a = .inr (vs, e) → R bs e = .inr (v, e2) → repR (i + 1) R bs a = .inr (vs ++ [v], e2)
  | 0, a, e, e2, vs, v, h, h2 => by
    cases h
    show bndR R _ bs a = _
    rw [bnd_ok h2]; rfl
  | i + 1, a, e, e2, vs, v, h, h2 => by
    rcases bnd_inv h with ⟨x, _, hx⟩ | ⟨u, e1, hu, hs⟩
    · cases hx
    rcases bnd_inv hs with ⟨x, _, hx⟩ | ⟨us, e3, hus, hp⟩
    · cases hx
    cases hp
    show bndR R _ bs a = _
    rw [bnd_ok hu, bnd_ok (rep_up hus h2)]
    rfl
theorem rep_err {α : Type} {R : Rd α} {bs : List Int} {x : Int × Nat} : ∀ {i n a e : Nat} {vs : List α}, repR i R bs a = .inr (vs, e) → R bs e = .inl x → i < n → repR n R bs a = .inl x
  | 0, n + 1, a, e, vs, h, h2, _ => by
    cases h
    exact bnd_err h2
  | i + 1, n + 1, a, e, vs, h, h2, hn => by
    rcases bnd_inv h with ⟨x, _, hx⟩ | ⟨u, e1, hu, hs⟩
    · cases hx
    rcases bnd_inv hs with ⟨x, _, hx⟩ | ⟨us, e3, hus, hp⟩
    · cases hx
    cases hp
    show bndR R _ bs a = _
    rw [bnd_ok hu, bnd_err (rep_err hus h2 (by omega))]
theorem rep_len {α : Type} {R : Rd α} {bs : List Int} : ∀ {i a e : Nat} {vs : List α}, repR i R bs a = .inr (vs, e) → vs.length = i
  | 0, a, e, vs, h => by cases h; rfl
  | i + 1, a, e, vs, h => by
    rcases bnd_inv h with ⟨x, _, hx⟩ | ⟨u, e1, hu, hs⟩
    · cases hx
    rcases bnd_inv hs with ⟨x, _, hx⟩ | ⟨us, e3, hus, hp⟩
    · cases hx
    cases hp
    simp [rep_len hus]
theorem take_ok {n a : Nat} {bs : List Int} (h : a + n ≤ bs.length) : takeR n bs a = .inr ((bs.drop a).take n, a + n) := if_pos (by omega)
theorem take_err {n a : Nat} {bs : List Int} (h : bs.length < a + n) (ha : a ≤ bs.length) : takeR n bs a = .inl (61, bs.length) := if_neg (by omega)
theorem lead_le : ∀ (k : Nat) (l : List Int), lead k l ≤ k ∧ lead k l ≤ l.length
  | 0, l => by simp [lead]
  | k + 1, [] => by simp [lead]
  | k + 1, b :: l => by
    have := lead_le k l
    unfold lead
    split <;> simp <;> omega
theorem lead_ge : ∀ (k : Nat) (l : List Int) (j : Nat) (b : Int), j < lead k l → l[j]? = some b → 128 ≤ b
  | 0, l, j, b, h, _ => by simp [lead] at h
  | k + 1, [], j, b, h, _ => by simp [lead] at h
  | k + 1, c :: l, j, b, h, hb => by
    unfold lead at h
    split at h
    · omega
    · cases j with
      | zero => simp at hb; omega
      | succ j => exact lead_ge k l j b (by omega) (by simpa using hb)
theorem lead_at : ∀ (k : Nat) (l : List Int) (b : Int), lead k l < k → l[lead k l]? = some b → b < 128
  | 0, l, b, h, _ => by simp [lead] at h
  | k + 1, [], b, h, hb => by simp [lead] at hb
  | k + 1, c :: l, b, h, hb => by
    unfold lead at h hb
    split at hb
    · simp at hb; omega
    · rename_i hc
      rw [if_neg hc] at h
      exact lead_at k l b (by omega) (by simpa using hb)
/-- the first byte below 128 tells it -/
theorem lead_is : ∀ (k : Nat) (l : List Int) (j : Nat), j ≤ k → j ≤ l.length → (∀ i b, i < j → l[i]? = some b → 128 ≤ b) → (j = k ∨ j = l.length ∨ ∃ b, l[j]? = some b ∧ b < 128) → lead k l = j
  | 0, l, j, h1, h2, h3, h4 => by simp [lead]; omega
  | k + 1, [], j, h1, h2, h3, h4 => by simp [lead] at *; omega
  | k + 1, c :: l, j, h1, h2, h3, h4 => by
    unfold lead
    cases j with
    | zero =>
      rcases h4 with h4 | h4 | ⟨b, hb, h4⟩
      · omega
      · simp at h4
      · simp at hb; rw [if_pos (by omega)]
    | succ j =>
      have hc := h3 0 c (by omega) (by simp)
      rw [if_neg (by omega), lead_is k l j (by omega) (by simpa using h2) (fun i b hi hb => h3 (i + 1) b (by omega) (by simpa using hb)) ?_]
      rcases h4 with h4 | h4 | ⟨b, hb, h4⟩
      · exact .inl (by omega)
      · exact .inr (.inl (by simpa using h4))
      · exact .inr (.inr ⟨b, by simpa using hb, h4⟩)
end Go.Proofs.YtghlbdmldahnlaaGreatDoor
