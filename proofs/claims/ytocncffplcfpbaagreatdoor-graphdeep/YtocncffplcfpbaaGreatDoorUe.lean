/- programs as bytes: the numbers -/
import Derived.WalkKit
namespace Go.Proofs.YtocncffplcfpbaaGreatDoor
set_option linter.unusedVariables false
set_option linter.unusedSimpArgs false

/-- a number's bytes -/
def numB (n : Nat) : List Int := if h : n < 128 then [(n : Int)] else ((128 + n % 128 : Nat) : Int) :: numB (n / 128)
termination_by n
decreasing_by omega
theorem numB_lt {n : Nat} (h : n < 128) : numB n = [(n : Int)] := by rw [numB, dif_pos h]
theorem numB_ge {n : Nat} (h : 128 ≤ n) : numB n = ((128 + n % 128 : Nat) : Int) :: numB (n / 128) := by rw [numB, dif_neg (by omega)]
def Byt (bs : List Int) : Prop := ∀ b ∈ bs, 0 ≤ b ∧ b ≤ 255
theorem Byt.nil : Byt [] := fun _ h => by cases h
theorem Byt.cons {b : Int} {bs : List Int} (h1 : 0 ≤ b) (h2 : b ≤ 255) (h : Byt bs) : Byt (b :: bs) := fun c hc => by
  rcases List.mem_cons.1 hc with rfl | hc
  · exact ⟨h1, h2⟩
  · exact h c hc
theorem Byt.app {a b : List Int} (h : Byt a) (g : Byt b) : Byt (a ++ b) := fun c hc => (List.mem_append.1 hc).elim (h c) (g c)
theorem numB_byt (n : Nat) : Byt (numB n) := by
  induction n using Nat.strongRecOn with
  | _ n ih =>
    by_cases h : n < 128
    · rw [numB_lt h]; exact Byt.cons (by omega) (by omega) Byt.nil
    · rw [numB_ge (by omega)]; exact Byt.cons (by omega) (by omega) (ih _ (by omega))
theorem numB_len {k n : Nat} (h : n < 128 ^ (k + 1)) : (numB n).length ≤ k + 1 := by
  induction k generalizing n with
  | zero => rw [numB_lt (by simpa using h)]; simp
  | succ k ih =>
    by_cases h1 : n < 128
    · rw [numB_lt h1]; simp
    · rw [numB_ge (by omega), List.length_cons]
      have : n / 128 < 128 ^ (k + 1) := by
        rw [Nat.div_lt_iff_lt_mul (by decide)]; rw [Nat.pow_succ] at h; exact h
      have := ih this
      omega
theorem numB_ne (n : Nat) : numB n ≠ [] := by
  by_cases h : n < 128
  · rw [numB_lt h]; simp
  · rw [numB_ge (by omega)]; simp
/-- what a fixnum is written as -/
def zig (a : Int) : Nat := if 0 ≤ a then (2 * a).toNat else (-2 * a - 1).toNat
def zag (n : Nat) : Int := if n % 2 = 0 then (n / 2 : Nat) else -((n / 2 : Nat) : Int) - 1
theorem zag_zig (a : Int) : zag (zig a) = a := by
  unfold zag zig
  split <;> split <;> omega
theorem zig_zag (n : Nat) : zig (zag n) = n := by
  unfold zag zig
  split <;> split <;> omega
/-- eight bytes, the lowest first -/
def le8 (a : Int) : List Int := (List.range 8).map fun i => a / 256 ^ i % 256
def un8 : List Int → Int
  | [] => 0
  | b :: bs => b + 256 * un8 bs
/-- eight bytes as an int of 64 bits -/
def sg8 (l : List Int) : Int := if un8 l < 9223372036854775808 then un8 l else un8 l - 18446744073709551616
theorem sg8_or (l : List Int) : (sg8 l = un8 l ∧ un8 l < 9223372036854775808) ∨ (sg8 l = un8 l - 18446744073709551616 ∧ 9223372036854775808 ≤ un8 l) := by
  unfold sg8
  by_cases h : un8 l < 9223372036854775808
  · exact .inl ⟨if_pos h, h⟩
  · exact .inr ⟨if_neg h, by omega⟩
theorem le8_eq (a : Int) : le8 a = [a % 256, a / 256 % 256, a / 65536 % 256, a / 16777216 % 256, a / 4294967296 % 256, a / 1099511627776 % 256, a / 281474976710656 % 256, a / 72057594037927936 % 256] := by
  show (List.range 8).map _ = _
  simp [List.range, List.range.loop]
theorem le8_byt (a : Int) : Byt (le8 a) := by
  rw [le8_eq]
  repeat' apply Byt.cons
  all_goals first | exact Byt.nil | omega
theorem sg8_le8 {a : Int} (h1 : -9223372036854775808 ≤ a) (h2 : a ≤ 9223372036854775807) : sg8 (le8 a) = a := by
  have key := sg8_or (le8 a)
  rw [le8_eq] at key ⊢
  simp only [un8] at key
  have e : a % 256 + 256 * (a / 256 % 256 + 256 * (a / 65536 % 256 + 256 * (a / 16777216 % 256 + 256 * (a / 4294967296 % 256 + 256 * (a / 1099511627776 % 256 + 256 * (a / 281474976710656 % 256 + 256 * (a / 72057594037927936 % 256 + 256 * 0))))))) = a % 18446744073709551616 := by omega
  rw [e] at key
  omega
theorem le8_sg8 {b0 b1 b2 b3 b4 b5 b6 b7 : Int} (h : Byt [b0, b1, b2, b3, b4, b5, b6, b7]) : le8 (sg8 [b0, b1, b2, b3, b4, b5, b6, b7]) = [b0, b1, b2, b3, b4, b5, b6, b7] := by
  have h0 := h b0 (by simp)
  have h1 := h b1 (by simp)
  have h2 := h b2 (by simp)
  have h3 := h b3 (by simp)
  have h4 := h b4 (by simp)
  have h5 := h b5 (by simp)
  have h6 := h b6 (by simp)
  have h7 := h b7 (by simp)
  clear h
  rw [le8_eq]
  have key : ∀ u : Int, (u = b0 + 256 * (b1 + 256 * (b2 + 256 * (b3 + 256 * (b4 + 256 * (b5 + 256 * (b6 + 256 * b7)))))) ∨ u = b0 + 256 * (b1 + 256 * (b2 + 256 * (b3 + 256 * (b4 + 256 * (b5 + 256 * (b6 + 256 * b7)))))) - 18446744073709551616) →
      [u % 256, u / 256 % 256, u / 65536 % 256, u / 16777216 % 256, u / 4294967296 % 256, u / 1099511627776 % 256, u / 281474976710656 % 256, u / 72057594037927936 % 256] = [b0, b1, b2, b3, b4, b5, b6, b7] := by
    intro u hu
    have e0 : u % 256 = b0 := by omega
    have e1 : u / 256 % 256 = b1 := by omega
    have e2 : u / 65536 % 256 = b2 := by omega
    have e3 : u / 16777216 % 256 = b3 := by omega
    have e4 : u / 4294967296 % 256 = b4 := by omega
    have e5 : u / 1099511627776 % 256 = b5 := by omega
    have e6 : u / 281474976710656 % 256 = b6 := by omega
    have e7 : u / 72057594037927936 % 256 = b7 := by omega
    rw [e0, e1, e2, e3, e4, e5, e6, e7]
  apply key
  have k2 := sg8_or [b0, b1, b2, b3, b4, b5, b6, b7]
  simp only [un8] at k2
  omega
theorem sg8_wf {l : List Int} (hl : l.length = 8) (h : Byt l) : -9223372036854775808 ≤ sg8 l ∧ sg8 l ≤ 9223372036854775807 := by
  match l, hl with
  | [b0, b1, b2, b3, b4, b5, b6, b7], _ =>
    have h0 := h b0 (by simp)
    have h1 := h b1 (by simp)
    have h2 := h b2 (by simp)
    have h3 := h b3 (by simp)
    have h4 := h b4 (by simp)
    have h5 := h b5 (by simp)
    have h6 := h b6 (by simp)
    have h7 := h b7 (by simp)
    clear h
    have k2 := sg8_or [b0, b1, b2, b3, b4, b5, b6, b7]
    simp only [un8] at k2
    omega

/-- how the operand of an instruction is written: 0 no such, 1 none, 2 a number, 3 a fixnum, 4 bits -/
def opS (op : Int) : Nat :=
  if op = 1 then 3 else if op = 5 then 4
  else if (2 ≤ op ∧ op ≤ 10) ∨ (14 ≤ op ∧ op ≤ 18) then 2
  else if (11 ≤ op ∧ op ≤ 13) ∨ (19 ≤ op ∧ op ≤ 22) ∨ (30 ≤ op ∧ op ≤ 75) then 1 else 0
def okI (x : Int × Int) : Prop :=
  opS x.1 ≠ 0 ∧ (opS x.1 = 1 → x.2 = 0) ∧ (opS x.1 = 2 → 0 ≤ x.2 ∧ x.2 ≤ 2097151) ∧ (opS x.1 = 3 → -1152921504606846976 ≤ x.2 ∧ x.2 ≤ 1152921504606846975) ∧ (opS x.1 = 4 → -9223372036854775808 ≤ x.2 ∧ x.2 ≤ 9223372036854775807)
def opB (x : Int × Int) : List Int :=
  if opS x.1 = 2 then numB x.2.toNat else if opS x.1 = 3 then numB (zig x.2) else if opS x.1 = 4 then le8 x.2 else []
def encI (x : Int × Int) : List Int := x.1 :: opB x
def okT (t : List Int) : Prop := t.length ≤ 4096
def encT (t : List Int) : List Int := numB t.length ++ t
/-- a function: params, locals, captures, code -/
def okF (f : Int × Int × Int × List (Int × Int)) : Prop :=
  (0 ≤ f.1 ∧ f.1 ≤ 8) ∧ (0 ≤ f.2.1 ∧ f.2.1 ≤ 64) ∧ (0 ≤ f.2.2.1 ∧ f.2.2.1 ≤ 64) ∧ f.2.2.2.length ≤ 4096 ∧ ∀ x ∈ f.2.2.2, okI x
def encF (f : Int × Int × Int × List (Int × Int)) : List Int :=
  numB f.1.toNat ++ (numB f.2.1.toNat ++ (numB f.2.2.1.toNat ++ (numB f.2.2.2.length ++ f.2.2.2.flatMap encI)))
/-- a program: globals, texts, functions -/
def okP (p : Int × List (List Int) × List (Int × Int × Int × List (Int × Int))) : Prop :=
  (0 ≤ p.1 ∧ p.1 ≤ 64) ∧ p.2.1.length ≤ 64 ∧ (∀ t ∈ p.2.1, okT t) ∧ (1 ≤ p.2.2.length ∧ p.2.2.length ≤ 64) ∧ ∀ f ∈ p.2.2, okF f
def encP (p : Int × List (List Int) × List (Int × Int × Int × List (Int × Int))) : List Int :=
  [104, 116, 104, 1] ++ (numB p.1.toNat ++ (numB p.2.1.length ++ (p.2.1.flatMap encT ++ (numB p.2.2.length ++ p.2.2.flatMap encF))))
end Go.Proofs.YtocncffplcfpbaaGreatDoor
namespace Go.Proofs.YtocncffplcfpbaaGreatDoor
set_option linter.unusedVariables false

/-- what reading gives: an error and its place, or a thing and where the next part begins -/
abbrev Rd (α : Type) : Type := List Int → Nat → Sum (Int × Nat) (α × Nat)
def pureR {α : Type} (v : α) : Rd α := fun _ a => .inr (v, a)
def bndR {α β : Type} (R : Rd α) (S : α → Rd β) : Rd β := fun bs a => match R bs a with
  | .inl e => .inl e
  | .inr p => S p.1 bs p.2
/-- a part that has to be as asked: else it is wrong where it begins -/
noncomputable def chkR {α : Type} (R : Rd α) (ok : α → Prop) : Rd α := fun bs a => match R bs a with
  | .inl e => .inl e
  | .inr p => open Classical in if ok p.1 then .inr p else .inl (60, a)
def takeR (n : Nat) : Rd (List Int) := fun bs a => if n ≤ bs.length - a then .inr ((bs.drop a).take n, a + n) else .inl (61, bs.length)
/-- how many of the first bytes say that another one comes -/
def lead : Nat → List Int → Nat
  | 0, _ => 0
  | _ + 1, [] => 0
  | k + 1, b :: l => if b < 128 then 0 else lead k l + 1
def rowR : Rd (List Int) := fun bs a =>
  if lead 9 (bs.drop a) < 9 ∧ lead 9 (bs.drop a) < bs.length - a then .inr ((bs.drop a).take (lead 9 (bs.drop a) + 1), a + (lead 9 (bs.drop a) + 1))
  else if bs.length - a < 9 then .inl (61, bs.length) else .inl (60, a)
def valN : List Int → Nat
  | [] => 0
  | b :: r => (b % 128).toNat + 128 * valN r
def okRow (lo hi : Nat) (row : List Int) : Prop := (row.length = 1 ∨ row.getLast? ≠ some 0) ∧ lo ≤ valN row ∧ valN row ≤ hi
noncomputable def numR (lo hi : Nat) : Rd Nat := bndR (chkR rowR (okRow lo hi)) fun row => pureR (valN row)
def repR {α : Type} : Nat → Rd α → Rd (List α)
  | 0, _ => pureR []
  | n + 1, R => bndR R fun v => bndR (repR n R) fun vs => pureR (v :: vs)
noncomputable def opR : Rd Int := bndR (chkR (takeR 1) fun l => opS (l.headD 0) ≠ 0) fun l => pureR (l.headD 0)
noncomputable def argR (op : Int) : Rd (Int × Int) :=
  if opS op = 2 then bndR (numR 0 2097151) fun n => pureR (op, (n : Int))
  else if opS op = 3 then bndR (numR 0 2305843009213693951) fun n => pureR (op, zag n)
  else if opS op = 4 then bndR (takeR 8) fun l => pureR (op, sg8 l) else pureR (op, 0)
noncomputable def insR : Rd (Int × Int) := bndR opR argR
noncomputable def txtR : Rd (List Int) := bndR (numR 0 4096) takeR
noncomputable def funR : Rd (Int × Int × Int × List (Int × Int)) :=
  bndR (numR 0 8) fun a => bndR (numR 0 64) fun b => bndR (numR 0 64) fun c => bndR (numR 0 4096) fun n => bndR (repR n insR) fun l => pureR ((a : Int), (b : Int), (c : Int), l)
noncomputable def magR : List Int → Rd Unit
  | [] => pureR ()
  | c :: l => bndR (chkR (takeR 1) (· = [c])) fun _ => magR l
noncomputable def prgR : Rd (Int × List (List Int) × List (Int × Int × Int × List (Int × Int))) :=
  bndR (magR [104, 116, 104, 1]) fun _ => bndR (numR 0 64) fun g => bndR (numR 0 64) fun n => bndR (repR n txtR) fun ts => bndR (numR 1 64) fun m => bndR (repR m funR) fun fs => pureR ((g : Int), ts, fs)

/-! how a thing that is read goes on -/
theorem bnd_ok {α β : Type} {R : Rd α} {S : α → Rd β} {bs : List Int} {a e : Nat} {v : α} (h : R bs a = .inr (v, e)) : bndR R S bs a = S v bs e := by
  unfold bndR; rw [h]
theorem bnd_err {α β : Type} {R : Rd α} {S : α → Rd β} {bs : List Int} {a : Nat} {x : Int × Nat} (h : R bs a = .inl x) : bndR R S bs a = .inl x := by
  unfold bndR; rw [h]
theorem chk_ok {α : Type} {R : Rd α} {ok : α → Prop} {bs : List Int} {a e : Nat} {v : α} (h : R bs a = .inr (v, e)) (hv : ok v) : chkR R ok bs a = .inr (v, e) := by
  unfold chkR; rw [h]; exact if_pos hv
theorem chk_no {α : Type} {R : Rd α} {ok : α → Prop} {bs : List Int} {a e : Nat} {v : α} (h : R bs a = .inr (v, e)) (hv : ¬ ok v) : chkR R ok bs a = .inl (60, a) := by
  unfold chkR; rw [h]; exact if_neg hv
theorem chk_err {α : Type} {R : Rd α} {ok : α → Prop} {bs : List Int} {a : Nat} {x : Int × Nat} (h : R bs a = .inl x) : chkR R ok bs a = .inl x := by
  unfold chkR; rw [h]
theorem bnd_inv {α β : Type} {R : Rd α} {S : α → Rd β} {bs : List Int} {a : Nat} {y : Sum (Int × Nat) (β × Nat)} (h : bndR R S bs a = y) :
    (∃ x, R bs a = .inl x ∧ y = .inl x) ∨ ∃ v e, R bs a = .inr (v, e) ∧ S v bs e = y := by
  rcases hR : R bs a with x | ⟨v, e⟩
  · rw [bnd_err hR] at h; exact .inl ⟨x, rfl, h.symm⟩
  · rw [bnd_ok hR] at h; exact .inr ⟨v, e, rfl, h⟩
theorem chk_inv {α : Type} {R : Rd α} {ok : α → Prop} {bs : List Int} {a : Nat} {y : Sum (Int × Nat) (α × Nat)} (h : chkR R ok bs a = y) :
    (∃ x, R bs a = .inl x ∧ y = .inl x) ∨ (∃ v e, R bs a = .inr (v, e) ∧ ok v ∧ y = .inr (v, e)) ∨ ∃ v e, R bs a = .inr (v, e) ∧ ¬ ok v ∧ y = .inl (60, a) := by
  rcases hR : R bs a with x | ⟨v, e⟩
  · rw [chk_err hR] at h; exact .inl ⟨x, rfl, h.symm⟩
  · by_cases hv : ok v
    · rw [chk_ok hR hv] at h; exact .inr (.inl ⟨v, e, rfl, hv, h.symm⟩)
    · rw [chk_no hR hv] at h; exact .inr (.inr ⟨v, e, rfl, hv, h.symm⟩)
theorem rep_up {α : Type} {R : Rd α} {bs : List Int} : ∀ {i a e e2 : Nat} {vs : List α} {v : α}, repR i R bs a = .inr (vs, e) → R bs e = .inr (v, e2) → repR (i + 1) R bs a = .inr (vs ++ [v], e2)
  | 0, a, e, e2, vs, v, h, h2 => by
    cases h
    show bndR R _ bs a = _
    rw [bnd_ok h2]; rfl
  | i + 1, a, e, e2, vs, v, h, h2 => by
    rcases bnd_inv h with ⟨x, _, hx⟩ | ⟨u, e1, hu, hs⟩
    · cases hx
    rcases bnd_inv hs with ⟨x, _, hx⟩ | ⟨us, e3, hus, hp⟩
    · cases hx
    cases hp
    show bndR R _ bs a = _
    rw [bnd_ok hu, bnd_ok (rep_up hus h2)]
    rfl
theorem rep_err {α : Type} {R : Rd α} {bs : List Int} {x : Int × Nat} : ∀ {i n a e : Nat} {vs : List α}, repR i R bs a = .inr (vs, e) → R bs e = .inl x → i < n → repR n R bs a = .inl x
  | 0, n + 1, a, e, vs, h, h2, _ => by
    cases h
    exact bnd_err h2
  | i + 1, n + 1, a, e, vs, h, h2, hn => by
    rcases bnd_inv h with ⟨x, _, hx⟩ | ⟨u, e1, hu, hs⟩
    · cases hx
    rcases bnd_inv hs with ⟨x, _, hx⟩ | ⟨us, e3, hus, hp⟩
    · cases hx
    cases hp
    show bndR R _ bs a = _
    rw [bnd_ok hu, bnd_err (rep_err hus h2 (by omega))]
theorem rep_len {α : Type} {R : Rd α} {bs : List Int} : ∀ {i a e : Nat} {vs : List α}, repR i R bs a = .inr (vs, e) → vs.length = i
  | 0, a, e, vs, h => by cases h; rfl
  | i + 1, a, e, vs, h => by
    rcases bnd_inv h with ⟨x, _, hx⟩ | ⟨u, e1, hu, hs⟩
    · cases hx
    rcases bnd_inv hs with ⟨x, _, hx⟩ | ⟨us, e3, hus, hp⟩
    · cases hx
    cases hp
    simp [rep_len hus]
theorem take_ok {n a : Nat} {bs : List Int} (h : a + n ≤ bs.length) : takeR n bs a = .inr ((bs.drop a).take n, a + n) := if_pos (by omega)
theorem take_err {n a : Nat} {bs : List Int} (h : bs.length < a + n) (ha : a ≤ bs.length) : takeR n bs a = .inl (61, bs.length) := if_neg (by omega)
theorem lead_le : ∀ (k : Nat) (l : List Int), lead k l ≤ k ∧ lead k l ≤ l.length
  | 0, l => by simp [lead]
  | k + 1, [] => by simp [lead]
  | k + 1, b :: l => by
    have := lead_le k l
    unfold lead
    split <;> simp <;> omega
theorem lead_ge : ∀ (k : Nat) (l : List Int) (j : Nat) (b : Int), j < lead k l → l[j]? = some b → 128 ≤ b
  | 0, l, j, b, h, _ => by simp [lead] at h
  | k + 1, [], j, b, h, _ => by simp [lead] at h
  | k + 1, c :: l, j, b, h, hb => by
    unfold lead at h
    split at h
    · omega
    · cases j with
      | zero => simp at hb; omega
      | succ j => exact lead_ge k l j b (by omega) (by simpa using hb)
theorem lead_at : ∀ (k : Nat) (l : List Int) (b : Int), lead k l < k → l[lead k l]? = some b → b < 128
  | 0, l, b, h, _ => by simp [lead] at h
  | k + 1, [], b, h, hb => by simp [lead] at hb
  | k + 1, c :: l, b, h, hb => by
    unfold lead at h hb
    split at hb
    · simp at hb; omega
    · rename_i hc
      rw [if_neg hc] at h
      exact lead_at k l b (by omega) (by simpa using hb)
/-- the first byte below 128 tells it -/
theorem lead_is : ∀ (k : Nat) (l : List Int) (j : Nat), j ≤ k → j ≤ l.length → (∀ i b, i < j → l[i]? = some b → 128 ≤ b) → (j = k ∨ j = l.length ∨ ∃ b, l[j]? = some b ∧ b < 128) → lead k l = j
  | 0, l, j, h1, h2, h3, h4 => by simp [lead]; omega
  | k + 1, [], j, h1, h2, h3, h4 => by simp [lead] at *; omega
  | k + 1, c :: l, j, h1, h2, h3, h4 => by
    unfold lead
    cases j with
    | zero =>
      rcases h4 with h4 | h4 | ⟨b, hb, h4⟩
      · omega
      · simp at h4
      · simp at hb; rw [if_pos (by omega)]
    | succ j =>
      have hc := h3 0 c (by omega) (by simp)
      rw [if_neg (by omega), lead_is k l j (by omega) (by simpa using h2) (fun i b hi hb => h3 (i + 1) b (by omega) (by simpa using hb)) ?_]
      rcases h4 with h4 | h4 | ⟨b, hb, h4⟩
      · exact .inl (by omega)
      · exact .inr (.inl (by simpa using h4))
      · exact .inr (.inr ⟨b, by simpa using hb, h4⟩)
end Go.Proofs.YtocncffplcfpbaaGreatDoor
namespace Go.Proofs.YtocncffplcfpbaaGreatDoor
set_option linter.unusedVariables false

/-- what is read hangs on the bytes that were gone over alone; what is cut off ends there; what is wrong is so by nine bytes, and ends there if it is cut off ahead of it -/
def Good {α : Type} (R : Rd α) : Prop := ∀ (bs : List Int) (a : Nat), a ≤ bs.length →
  (∀ v e, R bs a = .inr (v, e) → a ≤ e ∧ e ≤ bs.length ∧ (∀ bs', e ≤ bs'.length → bs'.take e = bs.take e → R bs' a = .inr (v, e)) ∧ ∀ n, a ≤ n → n < e → R (bs.take n) a = .inl (61, n)) ∧
  ∀ x q, R bs a = .inl (x, q) → (x = 61 ∧ q = bs.length) ∨ (x = 60 ∧ a ≤ q ∧ q < bs.length ∧ R (bs.take q) a = .inl (61, q) ∧ ∀ bs', bs'.length = bs.length → bs'.take (q + 9) = bs.take (q + 9) → R bs' a = .inl (60, q))
def Part {α : Type} (R : Rd α) : Prop := Good R ∧ ∀ (bs : List Int) (a : Nat) v e, R bs a = .inr (v, e) → a < e ∧ e ≤ a + 9
theorem take_mono {l m : List Int} {i j : Nat} (h : l.take j = m.take j) (hij : i ≤ j) : l.take i = m.take i := by
  have := congrArg (List.take i) h
  rwa [List.take_take, List.take_take, Nat.min_eq_left hij] at this
theorem Good.pure {α : Type} (v : α) : Good (pureR v) := fun bs a ha =>
  ⟨fun u e h => by cases h; exact ⟨Nat.le_refl _, ha, fun _ _ _ => rfl, fun n h1 h2 => by omega⟩, fun x q h => by cases h⟩
theorem Good.bnd {α β : Type} {R : Rd α} {S : α → Rd β} (hR : Good R) (hS : ∀ v, Good (S v)) : Good (bndR R S) := by
  intro bs a ha
  obtain ⟨r1, r2⟩ := hR bs a ha
  constructor
  · intro u e h
    rcases bnd_inv h with ⟨x, _, hx⟩ | ⟨v, e1, h1, h2⟩
    · cases hx
    obtain ⟨a1, a2, a3, a4⟩ := r1 v e1 h1
    obtain ⟨b1, b2, b3, b4⟩ := (hS v bs e1 a2).1 u e h2
    refine ⟨by omega, b2, fun bs' hl ht => ?_, fun n hn1 hn2 => ?_⟩
    · rw [bnd_ok (a3 bs' (by omega) (take_mono ht (by omega)))]
      exact b3 bs' hl ht
    · by_cases hn : n < e1
      · exact bnd_err (a4 n hn1 hn)
      · rw [bnd_ok (a3 (bs.take n) (by rw [List.length_take]; omega) (by rw [List.take_take, Nat.min_eq_left (by omega)]))]
        exact b4 n (by omega) hn2
  · intro x q h
    rcases bnd_inv h with ⟨y, hy, hx⟩ | ⟨v, e1, h1, h2⟩
    · cases hx
      rcases r2 x q hy with c | ⟨c1, c2, c3, c4, c5⟩
      · exact .inl c
      · exact .inr ⟨c1, c2, c3, bnd_err c4, fun bs' hl ht => bnd_err (c5 bs' hl ht)⟩
    · obtain ⟨a1, a2, a3, a4⟩ := r1 v e1 h1
      rcases (hS v bs e1 a2).2 x q h2 with c | ⟨c1, c2, c3, c4, c5⟩
      · exact .inl c
      · refine .inr ⟨c1, by omega, c3, ?_, fun bs' hl ht => ?_⟩
        · rw [bnd_ok (a3 (bs.take q) (by rw [List.length_take]; omega) (by rw [List.take_take, Nat.min_eq_left (by omega)]))]
          exact c4
        · rw [bnd_ok (a3 bs' (by omega) (take_mono ht (by omega)))]
          exact c5 bs' hl ht
theorem Part.chk {α : Type} {R : Rd α} (hR : Part R) (ok : α → Prop) : Part (chkR R ok) := by
  obtain ⟨hG, hP⟩ := hR
  constructor
  · intro bs a ha
    obtain ⟨r1, r2⟩ := hG bs a ha
    constructor
    · intro u e h
      rcases chk_inv h with ⟨x, _, hx⟩ | ⟨v, e1, h1, hv, hx⟩ | ⟨v, e1, h1, hv, hx⟩
      · cases hx
      · cases hx
        obtain ⟨a1, a2, a3, a4⟩ := r1 u e h1
        exact ⟨a1, a2, fun bs' hl ht => chk_ok (a3 bs' hl ht) hv, fun n h1 h2 => chk_err (a4 n h1 h2)⟩
      · cases hx
    · intro x q h
      rcases chk_inv h with ⟨y, hy, hx⟩ | ⟨v, e1, h1, hv, hx⟩ | ⟨v, e1, h1, hv, hx⟩
      · cases hx
        rcases r2 x q hy with c | ⟨c1, c2, c3, c4, c5⟩
        · exact .inl c
        · exact .inr ⟨c1, c2, c3, chk_err c4, fun bs' hl ht => chk_err (c5 bs' hl ht)⟩
      · cases hx
      · cases hx
        obtain ⟨a1, a2, a3, a4⟩ := r1 v e1 h1
        have := hP bs a v e1 h1
        refine .inr ⟨rfl, Nat.le_refl _, by omega, chk_err (a4 a (Nat.le_refl _) this.1), fun bs' hl ht => ?_⟩
        exact chk_no (a3 bs' (by omega) (take_mono ht (by omega))) hv
  · intro bs a v e h
    rcases chk_inv h with ⟨x, _, hx⟩ | ⟨u, e1, h1, hv, hx⟩ | ⟨u, e1, h1, hv, hx⟩
    · cases hx
    · cases hx; exact hP bs a v e h1
    · cases hx
theorem drop_take_eq {l m : List Int} {a n : Nat} (h : l.take (a + n) = m.take (a + n)) : (l.drop a).take n = (m.drop a).take n := by
  have := congrArg (List.drop a) h
  rwa [List.drop_take, List.drop_take, Nat.add_sub_cancel_left] at this
theorem Good.take (n : Nat) : Good (takeR n) := by
  intro bs a ha
  constructor
  · intro v e h
    by_cases hn : a + n ≤ bs.length
    · rw [take_ok hn] at h
      cases h
      refine ⟨by omega, hn, fun bs' hl ht => ?_, fun m h1 h2 => ?_⟩
      · rw [take_ok (by omega), drop_take_eq ht]
      · rw [take_err (by rw [List.length_take]; omega) (by rw [List.length_take]; omega), List.length_take, Nat.min_eq_left (by omega)]
    · rw [take_err (by omega) ha] at h; cases h
  · intro x q h
    by_cases hn : a + n ≤ bs.length
    · rw [take_ok hn] at h; cases h
    · rw [take_err (by omega) ha] at h; cases h; exact .inl ⟨rfl, rfl⟩
theorem Part.take1 : Part (takeR 1) := ⟨Good.take 1, fun bs a v e h => by
  unfold takeR at h
  split at h <;> cases h
  omega⟩
theorem row_ok {bs : List Int} {a : Nat} (h1 : lead 9 (bs.drop a) < 9) (h2 : lead 9 (bs.drop a) < bs.length - a) : rowR bs a = .inr ((bs.drop a).take (lead 9 (bs.drop a) + 1), a + (lead 9 (bs.drop a) + 1)) := if_pos ⟨h1, h2⟩
theorem row_end {bs : List Int} {a : Nat} (h1 : ¬ (lead 9 (bs.drop a) < 9 ∧ lead 9 (bs.drop a) < bs.length - a)) (h2 : bs.length - a < 9) : rowR bs a = .inl (61, bs.length) := by
  unfold rowR; rw [if_neg h1, if_pos h2]
theorem row_bad {bs : List Int} {a : Nat} (h1 : ¬ (lead 9 (bs.drop a) < 9 ∧ lead 9 (bs.drop a) < bs.length - a)) (h2 : 9 ≤ bs.length - a) : rowR bs a = .inl (60, a) := by
  unfold rowR; rw [if_neg h1, if_neg (by omega)]
/-- the same first bytes, the same lead -/
theorem lead_same {l m : List Int} {j : Nat} (hj : lead 9 l = j) (h1 : j < 9) (h2 : j < l.length) (h : l.take (j + 1) = m.take (j + 1)) : lead 9 m = j := by
  have hat : ∀ i, i < j + 1 → m[i]? = l[i]? := fun i hi => by
    have := congrArg (fun x : List Int => x[i]?) h
    simp only [List.getElem?_take, if_pos hi] at this
    exact this.symm
  have hl : j < m.length := by
    have := hat j (by omega)
    rw [List.getElem?_eq_getElem h2] at this
    exact (List.getElem?_eq_some_iff.1 this).1
  refine lead_is 9 m j (by omega) (by omega) (fun i b hi hb => lead_ge 9 l i b (by omega) (by rw [← hat i (by omega)]; exact hb)) (.inr (.inr ⟨l[j], by rw [hat j (by omega)]; exact List.getElem?_eq_getElem h2, ?_⟩))
  exact lead_at 9 l _ (by omega) (by rw [hj]; exact List.getElem?_eq_getElem h2)
theorem Part.row : Part rowR := by
  constructor
  · intro bs a ha
    have hle := lead_le 9 (bs.drop a)
    rw [List.length_drop] at hle
    constructor
    · intro v e h
      by_cases h1 : lead 9 (bs.drop a) < 9 ∧ lead 9 (bs.drop a) < bs.length - a
      · rw [row_ok h1.1 h1.2] at h
        cases h
        refine ⟨by omega, by omega, fun bs' hl ht => ?_, fun m h3 h4 => ?_⟩
        · have hd := drop_take_eq ht
          have := lead_same (l := bs.drop a) (m := bs'.drop a) rfl h1.1 (by rw [List.length_drop]; exact h1.2) hd.symm
          rw [row_ok (by omega) (by omega), this, hd]
        · have hl : (bs.take m).length = m := by rw [List.length_take]; omega
          have hk : lead 9 ((bs.take m).drop a) = m - a := by
            rw [List.drop_take]
            refine lead_is 9 _ (m - a) (by omega) (by rw [List.length_take, List.length_drop]; omega) (fun i b hi hb => ?_) (.inr (.inl ?_))
            · rw [List.getElem?_take, if_pos hi] at hb
              exact lead_ge 9 (bs.drop a) i b (by omega) hb
            · rw [List.length_take, List.length_drop]; omega
          rw [row_end (by rw [hk, hl]; omega) (by rw [hl]; omega), hl]
      · by_cases h2 : bs.length - a < 9
        · rw [row_end h1 h2] at h; cases h
        · rw [row_bad h1 (by omega)] at h; cases h
    · intro x q h
      by_cases h1 : lead 9 (bs.drop a) < 9 ∧ lead 9 (bs.drop a) < bs.length - a
      · rw [row_ok h1.1 h1.2] at h; cases h
      · by_cases h2 : bs.length - a < 9
        · rw [row_end h1 h2] at h; cases h; exact .inl ⟨rfl, rfl⟩
        · rw [row_bad h1 (by omega)] at h
          cases h
          have h9 : lead 9 (bs.drop a) = 9 := by omega
          refine .inr ⟨rfl, Nat.le_refl _, by omega, ?_, fun bs' hl ht => ?_⟩
          · have hl : (bs.take a).length = a := by rw [List.length_take]; omega
            rw [row_end (by rw [hl]; omega) (by rw [hl]; omega), hl]
          · have hd := drop_take_eq ht
            have hk : lead 9 (bs'.drop a) = 9 := by
              refine lead_is 9 _ 9 (by omega) (by rw [List.length_drop]; omega) (fun i b hi hb => ?_) (.inl rfl)
              refine lead_ge 9 (bs.drop a) i b (by omega) ?_
              have := congrArg (fun x : List Int => x[i]?) hd
              simp only [List.getElem?_take, if_pos hi] at this
              rw [← this]; exact hb
            rw [row_bad (by omega) (by omega)]
  · intro bs a v e h
    unfold rowR at h
    split at h
    · cases h; omega
    · split at h <;> cases h
theorem Good.num (lo hi : Nat) : Good (numR lo hi) := (Part.row.chk _).1.bnd fun _ => Good.pure _
theorem Good.rep {α : Type} {R : Rd α} (h : Good R) : ∀ n, Good (repR n R)
  | 0 => Good.pure _
  | n + 1 => h.bnd fun _ => (Good.rep h n).bnd fun _ => Good.pure _
theorem Good.op : Good opR := (Part.take1.chk _).1.bnd fun _ => Good.pure _
theorem Good.arg (op : Int) : Good (argR op) := by
  unfold argR
  split
  · exact (Good.num _ _).bnd fun _ => Good.pure _
  split
  · exact (Good.num _ _).bnd fun _ => Good.pure _
  split
  · exact (Good.take _).bnd fun _ => Good.pure _
  · exact Good.pure _
theorem Good.ins : Good insR := Good.op.bnd Good.arg
theorem Good.txt : Good txtR := (Good.num _ _).bnd Good.take
theorem Good.fun_ : Good funR := (Good.num _ _).bnd fun _ => (Good.num _ _).bnd fun _ => (Good.num _ _).bnd fun _ => (Good.num _ _).bnd fun _ => (Good.rep Good.ins _).bnd fun _ => Good.pure _
theorem Good.mag : ∀ l, Good (magR l)
  | [] => Good.pure _
  | c :: l => (Part.take1.chk _).1.bnd fun _ => Good.mag l
theorem Good.prg : Good prgR := (Good.mag _).bnd fun _ => (Good.num _ _).bnd fun _ => (Good.num _ _).bnd fun _ => (Good.rep Good.txt _).bnd fun _ => (Good.num _ _).bnd fun _ => (Good.rep Good.fun_ _).bnd fun _ => Good.pure _
end Go.Proofs.YtocncffplcfpbaaGreatDoor
namespace Go.Proofs.YtocncffplcfpbaaGreatDoor
set_option linter.unusedVariables false

def At (bs : List Int) (a : Nat) (l : List Int) : Prop := a ≤ bs.length ∧ bs.drop a = l
theorem At.next {bs x post : List Int} {a : Nat} (h : At bs a (x ++ post)) : At bs (a + x.length) post := by
  obtain ⟨h1, h2⟩ := h
  have hl := congrArg List.length h2
  rw [List.length_drop, List.length_append] at hl
  refine ⟨by omega, ?_⟩
  rw [← List.drop_drop, h2, List.drop_left]
theorem At.len {bs l : List Int} {a : Nat} (h : At bs a l) : bs.length = a + l.length := by
  obtain ⟨h1, h2⟩ := h
  have hl := congrArg List.length h2
  rw [List.length_drop] at hl
  omega
def Comp {α : Type} (R : Rd α) (ok : α → Prop) (enc : α → List Int) : Prop := ∀ bs a v post, ok v → At bs a (enc v ++ post) → R bs a = .inr (v, a + (enc v).length)
def Snd {α : Type} (R : Rd α) (ok : α → Prop) (enc : α → List Int) : Prop := ∀ bs a v e, Byt bs → a ≤ bs.length → R bs a = .inr (v, e) → ok v ∧ e = a + (enc v).length ∧ ∃ post, At bs a (enc v ++ post)
theorem valN_num (n : Nat) : valN (numB n) = n := by
  induction n using Nat.strongRecOn with
  | _ n ih =>
    by_cases h : n < 128
    · rw [numB_lt h]; simp only [valN]; omega
    · rw [numB_ge (by omega)]
      simp only [valN, ih (n / 128) (by omega)]
      omega
theorem num_last (n : Nat) : (numB n).length = 1 ∨ (numB n).getLast? ≠ some 0 := by
  induction n using Nat.strongRecOn with
  | _ n ih =>
    by_cases h : n < 128
    · rw [numB_lt h]; exact .inl rfl
    · right
      rw [numB_ge (by omega)]
      have hne := numB_ne (n / 128)
      rw [List.getLast?_cons, List.getLast?_eq_some_getLast hne]
      simp only [Option.getD_some]
      rcases ih (n / 128) (by omega) with h1 | h1
      · by_cases h2 : n / 128 < 128
        · simp only [numB_lt h2]
          simp; omega
        · rw [numB_ge (by omega), List.length_cons] at h1
          have := numB_ne (n / 128 / 128)
          exact absurd (List.eq_nil_of_length_eq_zero (by omega)) this
      · rw [List.getLast?_eq_some_getLast hne] at h1
        exact h1
theorem lead_num (n : Nat) : ∀ (k : Nat) (post : List Int), (numB n).length ≤ k → lead k (numB n ++ post) + 1 = (numB n).length := by
  induction n using Nat.strongRecOn with
  | _ n ih =>
    intro k post hk
    by_cases h : n < 128
    · rw [numB_lt h] at hk ⊢
      cases k with
      | zero => simp at hk
      | succ k => simp only [List.cons_append, lead]; rw [if_pos (by omega)]; rfl
    · rw [numB_ge (by omega)] at hk ⊢
      cases k with
      | zero => simp at hk
      | succ k =>
        simp only [List.cons_append, lead, List.length_cons] at hk ⊢
        rw [if_neg (by omega), ih (n / 128) (by omega) k post (by omega)]
theorem num_val : ∀ (r : List Int), r ≠ [] → Byt r → (∀ i b, i + 1 < r.length → r[i]? = some b → 128 ≤ b) → (∀ b, r.getLast? = some b → b < 128) → (r.length = 1 ∨ r.getLast? ≠ some 0) → numB (valN r) = r ∧ (r.getLast? ≠ some 0 → 0 < valN r)
  | [], h, _, _, _, _ => (h rfl).elim
  | [b], _, hB, _, h2, _ => by
    have := hB b (by simp)
    have := h2 b rfl
    have e : valN [b] = b.toNat := by simp only [valN]; omega
    rw [e, numB_lt (by omega)]
    refine ⟨by rw [show ((b.toNat : Nat) : Int) = b by omega], fun h => ?_⟩
    have : b ≠ 0 := fun e => h (by rw [e]; rfl)
    omega
  | b :: c :: r, _, hB, h1, h2, h3 => by
    have hb := hB b (by simp)
    have hb2 := h1 0 b (by simp) rfl
    have hl : (b :: c :: r).getLast? = (c :: r).getLast? := by simp [List.getLast?_cons]
    have h3' : (c :: r).getLast? ≠ some 0 := by
      rcases h3 with h3 | h3
      · simp at h3
      · rw [← hl]; exact h3
    obtain ⟨i1, i2⟩ := num_val (c :: r) (by simp) (fun x hx => hB x (List.mem_cons_of_mem _ hx)) (fun i x hi hx => h1 (i + 1) x (by simpa using hi) (by simpa using hx)) (fun x hx => h2 x (by rw [hl]; exact hx)) (.inr h3')
    have hp := i2 h3'
    have e : valN (b :: c :: r) = (b % 128).toNat + 128 * valN (c :: r) := rfl
    refine ⟨?_, fun _ => by rw [e]; omega⟩
    rw [numB_ge (by rw [e]; omega), show valN (b :: c :: r) / 128 = valN (c :: r) by rw [e]; omega, i1, show ((128 + valN (b :: c :: r) % 128 : Nat) : Int) = b by rw [e]; omega]
theorem Comp.num {lo hi : Nat} (hh : hi < 128 ^ 9) : Comp (numR lo hi) (fun n => lo ≤ n ∧ n ≤ hi) numB := by
  intro bs a n post hn hat
  have hlen := numB_len (k := 8) (n := n) (by have := hn.2; exact Nat.lt_of_le_of_lt this hh)
  have hld := lead_num n 9 post (by omega)
  have hL := hat.len
  rw [List.length_append] at hL
  obtain ⟨h1, h2⟩ := hat
  have hr : rowR bs a = .inr (numB n, a + (numB n).length) := by
    have hd : lead 9 (bs.drop a) + 1 = (numB n).length := by rw [h2]; exact hld
    rw [row_ok (by omega) (by omega), hd, h2, List.take_left]
  unfold numR
  rw [bnd_ok (chk_ok hr ⟨num_last n, by rw [valN_num]; exact hn⟩), valN_num]
  rfl
theorem Byt.take {l : List Int} (h : Byt l) (n : Nat) : Byt (l.take n) := fun b hb => h b (List.mem_of_mem_take hb)
theorem Byt.drop {l : List Int} (h : Byt l) (n : Nat) : Byt (l.drop n) := fun b hb => h b (List.mem_of_mem_drop hb)
theorem Snd.num {lo hi : Nat} : Snd (numR lo hi) (fun n => lo ≤ n ∧ n ≤ hi) numB := by
  intro bs a n e hB ha h
  rcases bnd_inv h with ⟨x, _, hx⟩ | ⟨row, e1, hr, hp⟩
  · cases hx
  cases hp
  rcases chk_inv hr with ⟨x, _, hx⟩ | ⟨row', e1', hr', hok, hx⟩ | ⟨row', e1', _, _, hx⟩
  · cases hx
  · cases hx
    have hle := lead_le 9 (bs.drop a)
    rw [List.length_drop] at hle
    by_cases h1 : lead 9 (bs.drop a) < 9 ∧ lead 9 (bs.drop a) < bs.length - a
    · rw [row_ok h1.1 h1.2] at hr'
      cases hr'
      have hl : ((bs.drop a).take (lead 9 (bs.drop a) + 1)).length = lead 9 (bs.drop a) + 1 := by rw [List.length_take, List.length_drop]; omega
      have hk : numB (valN ((bs.drop a).take (lead 9 (bs.drop a) + 1))) = (bs.drop a).take (lead 9 (bs.drop a) + 1) := by
        refine (num_val _ (fun e => by rw [e] at hl; simp at hl) ((hB.drop a).take _) (fun i b hi hb => ?_) (fun b hb => ?_) hok.1).1
        · rw [hl] at hi
          rw [List.getElem?_take, if_pos (by omega)] at hb
          exact lead_ge 9 _ i b (by omega) hb
        · rw [List.getLast?_eq_getElem?, hl, List.getElem?_take, if_pos (by omega)] at hb
          exact lead_at 9 _ b (by omega) hb
      refine ⟨hok.2, by rw [hk, hl], (bs.drop a).drop (lead 9 (bs.drop a) + 1), ha, ?_⟩
      rw [hk, List.take_append_drop]
    · by_cases h2 : bs.length - a < 9
      · rw [row_end h1 h2] at hr'; cases hr'
      · rw [row_bad h1 (by omega)] at hr'; cases hr'
  · cases hx
theorem at_take {bs : List Int} {a n : Nat} (h : a + n ≤ bs.length) : At bs a ((bs.drop a).take n ++ (bs.drop a).drop n) := ⟨by omega, by rw [List.take_append_drop]⟩
theorem Comp.take {bs l post : List Int} {a n : Nat} (h : At bs a (l ++ post)) (hn : l.length = n) : takeR n bs a = .inr (l, a + n) := by
  have hL := h.len
  rw [List.length_append] at hL
  rw [take_ok (by omega), h.2, ← hn, List.take_left]
theorem Snd.take {bs l : List Int} {a n e : Nat} (ha : a ≤ bs.length) (h : takeR n bs a = .inr (l, e)) : l.length = n ∧ e = a + l.length ∧ ∃ post, At bs a (l ++ post) := by
  by_cases hn : a + n ≤ bs.length
  · rw [take_ok hn] at h
    cases h
    have : ((bs.drop a).take n).length = n := by rw [List.length_take, List.length_drop]; omega
    exact ⟨this, by rw [this], _, at_take hn⟩
  · rw [take_err (by omega) ha] at h; cases h
theorem Byt.at {bs l post : List Int} {a : Nat} (hB : Byt bs) (h : At bs a (l ++ post)) : Byt l := by
  have := hB.drop a
  rw [h.2] at this
  exact fun b hb => this b (List.mem_append_left _ hb)
/-- one part behind another -/
theorem At.join {bs x y post post' : List Int} {a : Nat} (h : At bs a (x ++ post)) (g : At bs (a + x.length) (y ++ post')) : At bs a (x ++ (y ++ post')) := by
  have := h.next
  have e : post = y ++ post' := this.2.symm.trans g.2
  rw [← e]; exact h
theorem opS_le (op : Int) : opS op ≤ 4 := by
  unfold opS
  split
  · decide
  split
  · decide
  split
  · decide
  split <;> decide
theorem Comp.ins : Comp insR okI encI := by
  intro bs a x post hok hat
  obtain ⟨op, v⟩ := x
  obtain ⟨k0, k1, k2, k3, k4⟩ := hok
  have hat' : At bs a ([op] ++ (opB (op, v) ++ post)) := hat
  have ht : opR bs a = .inr (op, a + 1) := by
    have h0 : takeR 1 bs a = .inr ([op], a + 1) := Comp.take hat' rfl
    have h1 : chkR (takeR 1) (fun l => opS (l.headD 0) ≠ 0) bs a = .inr ([op], a + 1) := chk_ok h0 k0
    unfold opR
    exact (bnd_ok h1).trans rfl
  have hn : At bs (a + 1) (opB (op, v) ++ post) := hat'.next
  unfold insR
  rw [bnd_ok ht]
  show argR op bs (a + 1) = .inr ((op, v), a + ([op] ++ opB (op, v)).length)
  rw [List.length_append, ← Nat.add_assoc]
  show argR op bs (a + 1) = .inr ((op, v), a + 1 + (opB (op, v)).length)
  unfold argR
  unfold opB at hn ⊢
  dsimp only at *
  split
  · rename_i h2
    rw [if_pos h2] at hn
    rw [bnd_ok (Comp.num (lo := 0) (hi := 2097151) (by decide) bs _ v.toNat _ (by have := k2 h2; omega) hn)]
    show Sum.inr ((op, ((v.toNat : Nat) : Int)), _) = _
    rw [Int.toNat_of_nonneg (k2 h2).1]
  rename_i h2
  rw [if_neg h2] at hn
  split
  · rename_i h3
    rw [if_pos h3] at hn
    have hz : zig v ≤ 2305843009213693951 := by have := k3 h3; unfold zig; split <;> omega
    rw [bnd_ok (Comp.num (lo := 0) (hi := 2305843009213693951) (by decide) bs _ (zig v) _ ⟨Nat.zero_le _, hz⟩ hn)]
    show Sum.inr ((op, zag (zig v)), _) = _
    rw [zag_zig]
  rename_i h3
  rw [if_neg h3] at hn
  split
  · rename_i h4
    rw [if_pos h4] at hn
    have hl : (le8 v).length = 8 := by unfold le8; simp
    rw [bnd_ok (Comp.take hn hl), hl]
    show Sum.inr ((op, sg8 (le8 v)), _) = _
    rw [sg8_le8 (k4 h4).1 (k4 h4).2]
  · rename_i h4
    have h1 : opS op = 1 := by
      have := opS_le op
      omega
    have := k1 h1
    subst this
    rfl
theorem Snd.ins : Snd insR okI encI := by
  intro bs a x e hB ha h
  rcases bnd_inv h with ⟨y, _, hx⟩ | ⟨op, e1, h1, h2⟩
  · cases hx
  rcases bnd_inv h1 with ⟨y, _, hx⟩ | ⟨l, e0, h3, h4⟩
  · cases hx
  cases h4
  rcases chk_inv h3 with ⟨y, _, hx⟩ | ⟨l', e0', h5, hok, hx⟩ | ⟨l', e0', _, _, hx⟩
  · cases hx
  · cases hx
    obtain ⟨hl, he, post, hat⟩ := Snd.take ha h5
    match l, hl with
    | [op], _ =>
      subst he
      have hn := hat.next
      have hle := hn.1
      change argR op bs (a + 1) = _ at h2
      change opS op ≠ 0 at hok
      unfold argR at h2
      split at h2
      · rename_i q2
        rcases bnd_inv h2 with ⟨y, _, hx⟩ | ⟨n, e2, h6, h7⟩
        · cases hx
        cases h7
        obtain ⟨g1, g2, post2, g3⟩ := Snd.num bs _ n _ hB hle h6
        have eB : opB (op, (n : Int)) = numB n := by unfold opB; rw [if_pos q2]; rfl
        refine ⟨⟨hok, fun q => ?_, fun q => ?_, fun q => ?_, fun q => ?_⟩, ?_, post2, ?_⟩
        · change opS op = 1 at q; omega
        · dsimp only; omega
        · change opS op = 3 at q; omega
        · change opS op = 4 at q; omega
        · rw [g2]; unfold encI; rw [eB]; simp only [List.length_cons, List.length_nil]; omega
        · unfold encI; rw [eB]; exact hat.join g3
      rename_i q2
      split at h2
      · rename_i q3
        rcases bnd_inv h2 with ⟨y, _, hx⟩ | ⟨n, e2, h6, h7⟩
        · cases hx
        cases h7
        obtain ⟨g1, g2, post2, g3⟩ := Snd.num bs _ n _ hB hle h6
        have eB : opB (op, zag n) = numB n := by unfold opB; rw [if_neg q2, if_pos q3, zig_zag]
        refine ⟨⟨hok, fun q => ?_, fun q => ?_, fun q => ?_, fun q => ?_⟩, ?_, post2, ?_⟩
        · change opS op = 1 at q; omega
        · change opS op = 2 at q; omega
        · dsimp only; have := g1.2; unfold zag; split <;> omega
        · change opS op = 4 at q; omega
        · rw [g2]; unfold encI; rw [eB]; simp only [List.length_cons, List.length_nil]; omega
        · unfold encI; rw [eB]; exact hat.join g3
      rename_i q3
      split at h2
      · rename_i q4
        rcases bnd_inv h2 with ⟨y, _, hx⟩ | ⟨n, e2, h6, h7⟩
        · cases hx
        cases h7
        obtain ⟨g1, g2, post2, g3⟩ := Snd.take hle h6
        have hBn := hB.at g3
        have eB : opB (op, sg8 n) = n := by
          unfold opB
          rw [if_neg q2, if_neg q3, if_pos q4]
          match n, g1, hBn with
          | [b0, b1, b2, b3, b4, b5, b6, b7], _, hb => exact le8_sg8 hb
        refine ⟨⟨hok, fun q => ?_, fun q => ?_, fun q => ?_, fun q => sg8_wf g1 hBn⟩, ?_, post2, ?_⟩
        · change opS op = 1 at q; omega
        · change opS op = 2 at q; omega
        · change opS op = 3 at q; omega
        · rw [g2]; unfold encI; rw [eB]; simp only [List.length_cons, List.length_nil]; omega
        · unfold encI; rw [eB]; exact hat.join g3
      · rename_i q4
        cases h2
        have eB : opB (op, 0) = [] := by unfold opB; rw [if_neg q2, if_neg q3, if_neg q4]
        refine ⟨⟨hok, fun _ => rfl, fun q => ?_, fun q => ?_, fun q => ?_⟩, ?_, post, ?_⟩
        · exact absurd q q2
        · exact absurd q q3
        · exact absurd q q4
        · unfold encI; rw [eB]; rfl
        · unfold encI; rw [eB]; exact hat
  · cases hx
theorem Comp.rep {α : Type} {R : Rd α} {ok : α → Prop} {enc : α → List Int} (h : Comp R ok enc) : ∀ (vs : List α) (bs : List Int) (a : Nat) (post : List Int), (∀ v ∈ vs, ok v) → At bs a (vs.flatMap enc ++ post) → repR vs.length R bs a = .inr (vs, a + (vs.flatMap enc).length)
  | [], bs, a, post, _, _ => rfl
  | v :: vs, bs, a, post, hok, hat => by
    rw [List.flatMap_cons, List.append_assoc] at hat
    show bndR R _ bs a = _
    rw [bnd_ok (h bs a v _ (hok v (by simp)) hat), bnd_ok (Comp.rep h vs bs _ post (fun u hu => hok u (by simp [hu])) hat.next), List.flatMap_cons, List.length_append, ← Nat.add_assoc]
    rfl
theorem Snd.rep {α : Type} {R : Rd α} {ok : α → Prop} {enc : α → List Int} (h : Snd R ok enc) : ∀ (n : Nat) (bs : List Int) (a : Nat) (vs : List α) (e : Nat), Byt bs → a ≤ bs.length → repR n R bs a = .inr (vs, e) → vs.length = n ∧ (∀ v ∈ vs, ok v) ∧ e = a + (vs.flatMap enc).length ∧ ∃ post, At bs a (vs.flatMap enc ++ post)
  | 0, bs, a, vs, e, hB, ha, hr => by cases hr; exact ⟨rfl, by simp, by simp, bs.drop a, ha, by simp⟩
  | n + 1, bs, a, vs, e, hB, ha, hr => by
    rcases bnd_inv hr with ⟨x, _, hx⟩ | ⟨u, e1, hu, hs⟩
    · cases hx
    rcases bnd_inv hs with ⟨x, _, hx⟩ | ⟨us, e3, hus, hp⟩
    · cases hx
    cases hp
    obtain ⟨g1, g2, post, g3⟩ := h bs a u e1 hB ha hu
    subst g2
    obtain ⟨k1, k2, k3, post2, k4⟩ := Snd.rep h n bs _ us e hB g3.next.1 hus
    refine ⟨by simp [k1], fun v hv => ?_, by rw [k3, List.flatMap_cons, List.length_append]; omega, post2, ?_⟩
    · rcases List.mem_cons.1 hv with rfl | hv
      · exact g1
      · exact k2 v hv
    · rw [List.flatMap_cons, List.append_assoc]; exact g3.join k4
end Go.Proofs.YtocncffplcfpbaaGreatDoor
namespace Go.Proofs.YtocncffplcfpbaaGreatDoor
set_option linter.unusedVariables false

theorem Comp.txt : Comp txtR okT encT := by
  intro bs a t post hok hat
  unfold encT at hat ⊢
  rw [List.append_assoc] at hat
  unfold txtR
  rw [bnd_ok (Comp.num (lo := 0) (hi := 4096) (by decide) bs a t.length _ ⟨Nat.zero_le _, hok⟩ hat), Comp.take hat.next rfl, List.length_append, Nat.add_assoc]
theorem Snd.txt : Snd txtR okT encT := by
  intro bs a t e hB ha h
  rcases bnd_inv h with ⟨x, _, hx⟩ | ⟨n, e1, h1, h2⟩
  · cases hx
  obtain ⟨g1, g2, post, g3⟩ := Snd.num bs a n e1 hB ha h1
  subst g2
  obtain ⟨k1, k2, post2, k3⟩ := Snd.take g3.next.1 h2
  subst k1
  refine ⟨g1.2, ?_, post2, ?_⟩
  · unfold encT; rw [List.length_append]; omega
  · unfold encT; rw [List.append_assoc]; exact g3.join k3
theorem Comp.fun_ : Comp funR okF encF := by
  intro bs a f post hok hat
  obtain ⟨x, y, z, l⟩ := f
  obtain ⟨⟨x1, x2⟩, ⟨y1, y2⟩, ⟨z1, z2⟩, l1, l2⟩ := hok
  dsimp only at x1 x2 y1 y2 z1 z2 l1 l2
  unfold encF at hat ⊢
  dsimp only at hat ⊢
  simp only [List.append_assoc] at hat
  simp only [List.length_append]
  have a2 := hat.next
  have a3 := a2.next
  have a4 := a3.next
  have a5 := a4.next
  unfold funR
  rw [bnd_ok (Comp.num (lo := 0) (hi := 8) (by decide) bs a x.toNat _ (by omega) hat), bnd_ok (Comp.num (lo := 0) (hi := 64) (by decide) bs _ y.toNat _ (by omega) a2), bnd_ok (Comp.num (lo := 0) (hi := 64) (by decide) bs _ z.toNat _ (by omega) a3),
    bnd_ok (Comp.num (lo := 0) (hi := 4096) (by decide) bs _ l.length _ (by omega) a4), bnd_ok (Comp.rep Comp.ins l bs _ post l2 a5)]
  show Sum.inr (((x.toNat : Int), (y.toNat : Int), (z.toNat : Int), l), _) = _
  rw [Int.toNat_of_nonneg x1, Int.toNat_of_nonneg y1, Int.toNat_of_nonneg z1]
  simp only [Nat.add_assoc]
theorem Snd.fun_ : Snd funR okF encF := by
  intro bs a f e hB ha h
  rcases bnd_inv h with ⟨x, _, hx⟩ | ⟨x, e1, h1, h⟩
  · cases hx
  rcases bnd_inv h with ⟨x, _, hx⟩ | ⟨y, e2, h2, h⟩
  · cases hx
  rcases bnd_inv h with ⟨x, _, hx⟩ | ⟨z, e3, h3, h⟩
  · cases hx
  rcases bnd_inv h with ⟨x, _, hx⟩ | ⟨n, e4, h4, h⟩
  · cases hx
  rcases bnd_inv h with ⟨x, _, hx⟩ | ⟨l, e5, h5, h⟩
  · cases hx
  cases h
  obtain ⟨p1, q1, r1, s1⟩ := Snd.num bs a x e1 hB ha h1
  subst q1
  obtain ⟨p2, q2, r2, s2⟩ := Snd.num bs _ y e2 hB s1.next.1 h2
  subst q2
  obtain ⟨p3, q3, r3, s3⟩ := Snd.num bs _ z e3 hB s2.next.1 h3
  subst q3
  obtain ⟨p4, q4, r4, s4⟩ := Snd.num bs _ n e4 hB s3.next.1 h4
  subst q4
  obtain ⟨p5, p6, q5, r5, s5⟩ := Snd.rep Snd.ins n bs _ l e hB s4.next.1 h5
  subst p5
  refine ⟨⟨by dsimp only; omega, by dsimp only; omega, by dsimp only; omega, p4.2, p6⟩, ?_, r5, ?_⟩
  · unfold encF; dsimp only; simp only [List.length_append, Int.toNat_natCast]; omega
  · unfold encF; dsimp only; simp only [List.append_assoc, Int.toNat_natCast]
    exact s1.join (s2.join (s3.join (s4.join s5)))
theorem Comp.mag : ∀ (l bs : List Int) (a : Nat) (post : List Int), At bs a (l ++ post) → magR l bs a = .inr ((), a + l.length)
  | [], bs, a, post, h => rfl
  | c :: l, bs, a, post, h => by
    have h' : At bs a ([c] ++ (l ++ post)) := h
    have h0 : takeR 1 bs a = .inr ([c], a + 1) := Comp.take h' rfl
    have h1 : chkR (takeR 1) (· = [c]) bs a = .inr ([c], a + 1) := chk_ok h0 rfl
    show bndR _ _ bs a = _
    rw [bnd_ok h1, Comp.mag l bs (a + 1) post h'.next, List.length_cons]
    congr 2; omega
theorem Snd.mag : ∀ (l bs : List Int) (a e : Nat) (u : Unit), a ≤ bs.length → magR l bs a = .inr (u, e) → e = a + l.length ∧ ∃ post, At bs a (l ++ post)
  | [], bs, a, e, u, ha, h => by cases h; exact ⟨rfl, _, ha, rfl⟩
  | c :: l, bs, a, e, u, ha, h => by
    rcases bnd_inv h with ⟨x, _, hx⟩ | ⟨x, e1, h1, h⟩
    · cases hx
    rcases chk_inv h1 with ⟨y, _, hx⟩ | ⟨l', e0', h5, hok, hx⟩ | ⟨l', e0', _, _, hx⟩
    · cases hx
    · cases hx
      subst hok
      obtain ⟨k1, k2, post, k3⟩ := Snd.take ha h5
      subst k2
      obtain ⟨g1, post2, g2⟩ := Snd.mag l bs _ e u k3.next.1 h
      refine ⟨by rw [g1]; simp only [List.length_cons, List.length_nil]; omega, post2, ?_⟩
      exact k3.join g2
    · cases hx
theorem Comp.prg : Comp prgR okP encP := by
  intro bs a p post hok hat
  obtain ⟨g, ts, fs⟩ := p
  obtain ⟨⟨x1, x2⟩, t1, t2, ⟨f1, f2⟩, f3⟩ := hok
  dsimp only at x1 x2 t1 t2 f1 f2 f3
  unfold encP at hat ⊢
  dsimp only at hat ⊢
  simp only [List.append_assoc] at hat
  simp only [List.length_append]
  have a2 := hat.next
  have a3 := a2.next
  have a4 := a3.next
  have a5 := a4.next
  have a6 := a5.next
  unfold prgR
  rw [bnd_ok (Comp.mag [104, 116, 104, 1] bs a _ hat), bnd_ok (Comp.num (lo := 0) (hi := 64) (by decide) bs _ g.toNat _ (by omega) a2), bnd_ok (Comp.num (lo := 0) (hi := 64) (by decide) bs _ ts.length _ (by omega) a3),
    bnd_ok (Comp.rep Comp.txt ts bs _ _ t2 a4), bnd_ok (Comp.num (lo := 1) (hi := 64) (by decide) bs _ fs.length _ (by omega) a5), bnd_ok (Comp.rep Comp.fun_ fs bs _ post f3 a6)]
  show Sum.inr (((g.toNat : Int), ts, fs), _) = _
  rw [Int.toNat_of_nonneg x1]
  simp only [Nat.add_assoc]
theorem Snd.prg : Snd prgR okP encP := by
  intro bs a p e hB ha h
  rcases bnd_inv h with ⟨x, _, hx⟩ | ⟨u, e0, h0, h⟩
  · cases hx
  rcases bnd_inv h with ⟨x, _, hx⟩ | ⟨g, e1, h1, h⟩
  · cases hx
  rcases bnd_inv h with ⟨x, _, hx⟩ | ⟨n, e2, h2, h⟩
  · cases hx
  rcases bnd_inv h with ⟨x, _, hx⟩ | ⟨ts, e3, h3, h⟩
  · cases hx
  rcases bnd_inv h with ⟨x, _, hx⟩ | ⟨m, e4, h4, h⟩
  · cases hx
  rcases bnd_inv h with ⟨x, _, hx⟩ | ⟨fs, e5, h5, h⟩
  · cases hx
  cases h
  obtain ⟨q0, r0, s0⟩ := Snd.mag _ bs a e0 u ha h0
  subst q0
  obtain ⟨p1, q1, r1, s1⟩ := Snd.num bs _ g e1 hB s0.next.1 h1
  subst q1
  obtain ⟨p2, q2, r2, s2⟩ := Snd.num bs _ n e2 hB s1.next.1 h2
  subst q2
  obtain ⟨p3, p3', q3, r3, s3⟩ := Snd.rep Snd.txt n bs _ ts e3 hB s2.next.1 h3
  subst p3
  subst q3
  obtain ⟨p4, q4, r4, s4⟩ := Snd.num bs _ m e4 hB s3.next.1 h4
  subst q4
  obtain ⟨p5, p6, q5, r5, s5⟩ := Snd.rep Snd.fun_ m bs _ fs e hB s4.next.1 h5
  subst p5
  refine ⟨⟨by dsimp only; omega, p2.2, p3', p4, p6⟩, ?_, r5, ?_⟩
  · unfold encP; dsimp only; simp only [List.length_append, Int.toNat_natCast]; omega
  · unfold encP; dsimp only; simp only [List.append_assoc, Int.toNat_natCast]
    exact s0.join (s1.join (s2.join (s3.join (s4.join s5))))
/-- a whole row: nothing is left behind the program -/
noncomputable def wholeR (bs : List Int) : Sum (Int × Nat) (Int × List (List Int) × List (Int × Int × Int × List (Int × Int))) := match prgR bs 0 with
  | .inl e => .inl e
  | .inr p => if p.2 = bs.length then .inr p.1 else .inl (60, p.2)
theorem whole_err {bs : List Int} {x : Int × Nat} (h : prgR bs 0 = .inl x) : wholeR bs = .inl x := by unfold wholeR; rw [h]
theorem whole_ok {bs : List Int} {p : Int × List (List Int) × List (Int × Int × Int × List (Int × Int))} (h : prgR bs 0 = .inr (p, bs.length)) : wholeR bs = .inr p := by unfold wholeR; rw [h]; exact if_pos rfl
theorem whole_left {bs : List Int} {p : Int × List (List Int) × List (Int × Int × Int × List (Int × Int))} {e : Nat} (h : prgR bs 0 = .inr (p, e)) (he : e ≠ bs.length) : wholeR bs = .inl (60, e) := by unfold wholeR; rw [h]; exact if_neg he
theorem at_self (l post : List Int) : At (l ++ post) 0 (l ++ post) := ⟨Nat.zero_le _, rfl⟩
theorem prg_enc {p : Int × List (List Int) × List (Int × Int × Int × List (Int × Int))} (h : okP p) (post : List Int) : prgR (encP p ++ post) 0 = .inr (p, (encP p).length) := by
  have := Comp.prg (encP p ++ post) 0 p post h (at_self _ _)
  rwa [Nat.zero_add] at this
theorem rd_wr {p : Int × List (List Int) × List (Int × Int × Int × List (Int × Int))} (h : okP p) : wholeR (encP p) = .inr p := by
  have := prg_enc h []
  rw [List.append_nil] at this
  exact whole_ok this
theorem wr_rd {bs : List Int} {p : Int × List (List Int) × List (Int × Int × Int × List (Int × Int))} (hB : Byt bs) (h : wholeR bs = .inr p) : okP p ∧ encP p = bs := by
  rcases hp : prgR bs 0 with x | ⟨q, e⟩
  · rw [whole_err hp] at h; cases h
  by_cases he : e = bs.length
  · subst he
    rw [whole_ok hp] at h
    cases h
    obtain ⟨g1, g2, post, g3⟩ := Snd.prg bs 0 p _ hB (Nat.zero_le _) hp
    have h4 := g3.2
    rw [List.drop_zero] at h4
    have hl := congrArg List.length h4
    rw [List.length_append] at hl
    have : post = [] := List.eq_nil_of_length_eq_zero (by omega)
    rw [this, List.append_nil] at h4
    exact ⟨g1, h4.symm⟩
  · rw [whole_left hp he] at h; cases h
theorem enc_inj {p q : Int × List (List Int) × List (Int × Int × Int × List (Int × Int))} (h : okP p) (g : okP q) (e : encP p = encP q) : p = q := by
  have a := rd_wr h
  rw [e, rd_wr g] at a
  cases a; rfl
theorem whole_cut {p : Int × List (List Int) × List (Int × Int × Int × List (Int × Int))} (h : okP p) {n : Nat} (hn : n < (encP p).length) : wholeR ((encP p).take n) = .inl (61, n) := by
  have hp := prg_enc h []
  rw [List.append_nil] at hp
  exact whole_err (((Good.prg (encP p) 0 (Nat.zero_le _)).1 _ _ hp).2.2.2 n (Nat.zero_le _) hn)
theorem whole_more {p : Int × List (List Int) × List (Int × Int × Int × List (Int × Int))} (h : okP p) {m : List Int} (hm : m ≠ []) : wholeR (encP p ++ m) = .inl (60, (encP p).length) := by
  refine whole_left (prg_enc h m) ?_
  rw [List.length_append]
  have := List.length_pos_iff.2 hm
  omega
theorem whole_ends {bs : List Int} {x : Int} {q : Nat} (h : wholeR bs = .inl (x, q)) : (x = 61 ∧ q = bs.length) ∨ (x = 60 ∧ q < bs.length ∧ (wholeR (bs.take q) = .inl (61, q) ∨ ∃ p, wholeR (bs.take q) = .inr p)) := by
  have hG := Good.prg bs 0 (Nat.zero_le _)
  rcases hp : prgR bs 0 with ⟨y, q'⟩ | ⟨p, e⟩
  · rw [whole_err hp] at h
    cases h
    rcases hG.2 x q hp with c | ⟨c1, c2, c3, c4, c5⟩
    · exact .inl c
    · exact .inr ⟨c1, c3, .inl (whole_err c4)⟩
  · by_cases he : e = bs.length
    · subst he; rw [whole_ok hp] at h; cases h
    · rw [whole_left hp he] at h
      cases h
      obtain ⟨a1, a2, a3, a4⟩ := hG.1 p q hp
      refine .inr ⟨rfl, by omega, .inr ⟨p, ?_⟩⟩
      have hl : (bs.take q).length = q := by rw [List.length_take]; omega
      have := a3 (bs.take q) (by omega) (by rw [List.take_take, Nat.min_self])
      exact whole_ok (by rw [hl]; exact this)
theorem whole_turned {p : Int × List (List Int) × List (Int × Int × Int × List (Int × Int))} (h : okP p) {k : Nat} (hk : k < (encP p).length) (t : Int) {x : Int} {q : Nat} (he : wholeR ((encP p).set k t) = .inl (x, q)) : k ≤ q + 8 := by
  rcases Nat.lt_or_ge (q + 8) k with hlt | hge
  · exfalso
    have hset : ∀ j, j ≤ k → ((encP p).set k t).take j = (encP p).take j := fun j hj => by
      rw [List.take_set_of_le hj]
    have hG := Good.prg ((encP p).set k t) 0 (Nat.zero_le _)
    have hc := prg_enc h []
    rw [List.append_nil] at hc
    rcases hp : prgR ((encP p).set k t) 0 with ⟨y, q'⟩ | ⟨p', e⟩
    · rw [whole_err hp] at he
      cases he
      rcases hG.2 x q hp with c | ⟨c1, c2, c3, c4, c5⟩
      · rw [List.length_set] at c; omega
      · have := c5 (encP p) (by rw [List.length_set]) ((hset _ (by omega)).symm)
        rw [hc] at this; cases this
    · by_cases h2 : e = ((encP p).set k t).length
      · subst h2; rw [whole_ok hp] at he; cases he
      · rw [whole_left hp h2] at he
        cases he
        obtain ⟨a1, a2, a3, a4⟩ := hG.1 p' q hp
        have := a3 (encP p) (by omega) ((hset _ (by omega)).symm)
        rw [hc] at this
        cases this
        omega
  · exact hge
end Go.Proofs.YtocncffplcfpbaaGreatDoor
