/- programs as bytes: the numbers -/
import Derived.WalkKit
namespace Go.Proofs.YtghlbdmldahnlaaGreatDoor
set_option linter.unusedVariables false
set_option linter.unusedSimpArgs false

/-- a number's bytes -/
def numB (n : Nat) : List Int := if h : n < 128 then [(n : Int)] else ((128 + n % 128 : Nat) : Int) :: numB (n / 128)
termination_by n
decreasing_by omega
theorem numB_lt {n : Nat} (h : n < 128) : numB n = [(n : Int)] := by rw [numB, dif_pos h]
theorem numB_ge {n : Nat} (h : 128 ≤ n) : numB n = ((128 + n % 128 : Nat) : Int) :: numB (n / 128) := by rw [numB, dif_neg (by omega)]
def Byt (bs : List Int) : Prop := ∀ b ∈ bs, 0 ≤ b ∧ b ≤ 255
theorem Byt.nil : Byt [] := fun _ h => by cases h
theorem Byt.cons {b : Int} {bs : List Int} (h1 : 0 ≤ b) (h2 : b ≤ 255) (h : Byt bs) : Byt (b :: bs) := fun c hc => by
  rcases List.mem_cons.1 hc with rfl | hc
  · exact ⟨h1, h2⟩
  · exact h c hc
theorem Byt.app {a b : List Int} (h : Byt a) (g : Byt b) : Byt (a ++ b) := fun c hc => (List.mem_append.1 hc).elim (h c) (g c)
theorem numB_byt (n : Nat) : Byt (numB n) := by
  induction n using Nat.strongRecOn with
  | _ n ih =>
    by_cases h : n < 128
    · rw [numB_lt h]; exact Byt.cons (by omega) (by omega) Byt.nil
    · rw [numB_ge (by omega)]; exact Byt.cons (by omega) (by omega) (ih _ (by omega))
theorem numB_len {k n : Nat} (h : n < 128 ^ (k + 1)) : (numB n).length ≤ k + 1 := by
  induction k generalizing n with
  | zero => rw [numB_lt (by simpa using h)]; simp
  | succ k ih =>
    by_cases h1 : n < 128
    · rw [numB_lt h1]; simp
    · rw [numB_ge (by omega), List.length_cons]
      have : n / 128 < 128 ^ (k + 1) := by
        rw [Nat.div_lt_iff_lt_mul (by decide)]; rw [Nat.pow_succ] at h; exact h
      have := ih this
      omega
theorem numB_ne (n : Nat) : numB n ≠ [] := by
  by_cases h : n < 128
  · rw [numB_lt h]; simp
  · rw [numB_ge (by omega)]; simp
/-- what a fixnum is written as -/
def zig (a : Int) : Nat := if 0 ≤ a then (2 * a).toNat else (-2 * a - 1).toNat
def zag (n : Nat) : Int := if n % 2 = 0 then (n / 2 : Nat) else -((n / 2 : Nat) : Int) - 1
theorem zag_zig (a : Int) : zag (zig a) = a := by
  unfold zag zig
  split <;> split <;> omega
theorem zig_zag (n : Nat) : zig (zag n) = n := by
  unfold zag zig
  split <;> split <;> omega
/-- eight bytes, the lowest first -/
def le8 (a : Int) : List Int := (List.range 8).map fun i => a / 256 ^ i % 256
def un8 : List Int → Int
  | [] => 0
  | b :: bs => b + 256 * un8 bs
/-- eight bytes as an int of 64 bits -/
def sg8 (l : List Int) : Int := if un8 l < 9223372036854775808 then un8 l else un8 l - 18446744073709551616
theorem sg8_or (l : List Int) : (sg8 l = un8 l ∧ un8 l < 9223372036854775808) ∨ (sg8 l = un8 l - 18446744073709551616 ∧ 9223372036854775808 ≤ un8 l) := by
  unfold sg8
  by_cases h : un8 l < 9223372036854775808
  · exact .inl ⟨if_pos h, h⟩
  · exact .inr ⟨if_neg h, by omega⟩
theorem le8_eq (a : Int) : le8 a = [a % 256, a / 256 % 256, a / 65536 % 256, a / 16777216 % 256, a / 4294967296 % 256, a / 1099511627776 % 256, a / 281474976710656 % 256, a / 72057594037927936 % 256] := by
  show (List.range 8).map _ = _
  simp [List.range, List.range.loop]
theorem le8_byt (a : Int) : Byt (le8 a) := by
  rw [le8_eq]
  repeat' apply Byt.cons
  all_goals first | exact Byt.nil | omega
theorem sg8_le8 {a : Int} (h1 : -9223372036854775808 ≤ a) (h2 : a ≤ 9223372036854775807) : sg8 (le8 a) = a := by
  have key := sg8_or (le8 a)
  rw [le8_eq] at key ⊢
  simp only [un8] at key
  have e : a % 256 + 256 * (a / 256 % 256 + 256 * (a / 65536 % 256 + 256 * (a / 16777216 % 256 + 256 * (a / 4294967296 % 256 + 256 * (a / 1099511627776 % 256 + 256 * (a / 281474976710656 % 256 + 256 * (a / 72057594037927936 % 256 + 256 * 0))))))) = a % 18446744073709551616 := by omega
  rw [e] at key
  omega
theorem le8_sg8 {b0 b1 b2 b3 b4 b5 b6 b7 : Int} (h : Byt [b0, b1, b2, b3, b4, b5, b6, b7]) : le8 (sg8 [b0, b1, b2, b3, b4, b5, b6, b7]) = [b0, b1, b2, b3, b4, b5, b6, b7] := by
  have h0 := h b0 (by simp)
  have h1 := h b1 (by simp)
  have h2 := h b2 (by simp)
  have h3 := h b3 (by simp)
  have h4 := h b4 (by simp)
  have h5 := h b5 (by simp)
  have h6 := h b6 (by simp)
  have h7 := h b7 (by simp)
  clear h
  rw [le8_eq]
  have key : ∀ u : Int, (u = b0 + 256 * (b1 + 256 * (b2 + 256 * (b3 + 256 * (b4 + 256 * (b5 + 256 * (b6 + 256 * b7)))))) ∨ u = b0 + 256 * (b1 + 256 * (b2 + 256 * (b3 + 256 * (b4 + 256 * (b5 + 256 * (b6 + 256 * b7)))))) - 18446744073709551616) →
      [u % 256, u / 256 % 256, u / 65536 % 256, u / 16777216 % 256, u / 4294967296 % 256, u / 1099511627776 % 256, u / 281474976710656 % 256, u / 72057594037927936 % 256] = [b0, b1, b2, b3, b4, b5, b6, b7] := by
    intro u hu
    have e0 : u % 256 = b0 := by omega
    have e1 : u / 256 % 256 = b1 := by omega
    have e2 : u / 65536 % 256 = b2 := by omega
    have e3 : u / 16777216 % 256 = b3 := by omega
    have e4 : u / 4294967296 % 256 = b4 := by omega
    have e5 : u / 1099511627776 % 256 = b5 := by omega
    have e6 : u / 281474976710656 % 256 = b6 := by omega
    have e7 : u / 72057594037927936 % 256 = b7 := by omega
    rw [e0, e1, e2, e3, e4, e5, e6, e7]
  apply key
  have k2 := sg8_or [b0, b1, b2, b3, b4, b5, b6, b7]
  simp only [un8] at k2
  omega
theorem sg8_wf {l : List Int} (hl : l.length = 8) (h : Byt l) : -9223372036854775808 ≤ sg8 l ∧ sg8 l ≤ 9223372036854775807 := by
  match l, hl with
  | [b0, b1, b2, b3, b4, b5, b6, b7], _ =>
    have h0 := h b0 (by simp)
    have h1 := h b1 (by simp)
    have h2 := h b2 (by simp)
    have h3 := h b3 (by simp)
    have h4 := h b4 (by simp)
    have h5 := h b5 (by simp)
    have h6 := h b6 (by simp)
    have h7 := h b7 (by simp)
    clear h
    have k2 := sg8_or [b0, b1, b2, b3, b4, b5, b6, b7]
    simp only [un8] at k2
    omega

/-- how the operand of an instruction is written: 0 no such, 1 none, 2 a number, 3 a fixnum, 4 bits -/
def opS (op : Int) : Nat :=
  if op = 1 then 3 else if op = 5 then 4
  else if (2 ≤ op ∧ op ≤ 10) ∨ (14 ≤ op ∧ op ≤ 18) then 2
  else if (11 ≤ op ∧ op ≤ 13) ∨ (19 ≤ op ∧ op ≤ 22) ∨ (30 ≤ op ∧ op ≤ 75) then 1 else 0
def okI (x : Int × Int) : Prop :=
  opS x.1 ≠ 0 ∧ (opS x.1 = 1 → x.2 = 0) ∧ (opS x.1 = 2 → 0 ≤ x.2 ∧ x.2 ≤ 2097151) ∧ (opS x.1 = 3 → -1152921504606846976 ≤ x.2 ∧ x.2 ≤ 1152921504606846975) ∧ (opS x.1 = 4 → -9223372036854775808 ≤ x.2 ∧ x.2 ≤ 9223372036854775807)
def opB (x : Int × Int) : List Int :=
  if opS x.1 = 2 then numB x.2.toNat else if opS x.1 = 3 then numB (zig x.2) else if opS x.1 = 4 then le8 x.2 else []
def encI (x : Int × Int) : List Int := x.1 :: opB x
def okT (t : List Int) : Prop := t.length ≤ 4096
def encT (t : List Int) : List Int := numB t.length ++ t
/-- a function: params, locals, captures, code -/
def okF (f : Int × Int × Int × List (Int × Int)) : Prop :=
  (0 ≤ f.1 ∧ f.1 ≤ 8) ∧ (0 ≤ f.2.1 ∧ f.2.1 ≤ 64) ∧ (0 ≤ f.2.2.1 ∧ f.2.2.1 ≤ 64) ∧ f.2.2.2.length ≤ 4096 ∧ ∀ x ∈ f.2.2.2, okI x
def encF (f : Int × Int × Int × List (Int × Int)) : List Int :=
  numB f.1.toNat ++ (numB f.2.1.toNat ++ (numB f.2.2.1.toNat ++ (numB f.2.2.2.length ++ f.2.2.2.flatMap encI)))
/-- a program: globals, texts, functions -/
def okP (p : Int × List (List Int) × List (Int × Int × Int × List (Int × Int))) : Prop :=
  (0 ≤ p.1 ∧ p.1 ≤ 64) ∧ p.2.1.length ≤ 64 ∧ (∀ t ∈ p.2.1, okT t) ∧ (1 ≤ p.2.2.length ∧ p.2.2.length ≤ 64) ∧ ∀ f ∈ p.2.2, okF f
def encP (p : Int × List (List Int) × List (Int × Int × Int × List (Int × Int))) : List Int :=
  [104, 116, 104, 1] ++ (numB p.1.toNat ++ (numB p.2.1.length ++ (p.2.1.flatMap encT ++ (numB p.2.2.length ++ p.2.2.flatMap encF))))
end Go.Proofs.YtghlbdmldahnlaaGreatDoor
