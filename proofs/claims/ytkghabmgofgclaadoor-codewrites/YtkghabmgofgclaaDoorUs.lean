/- package code: a number is read -/
import Derived.Test.YtkghabmgofgclaaDoorUr
namespace Go.Proofs.YtkghabmgofgclaaDoor
open Go.RowKit
set_option linter.unusedVariables false
set_option linter.unusedSimpArgs false

theorem RD.out {w w' : World} {r B n cap : Nat} {ba : Option Addr} {bs : List Int} {a : Nat} (h : RD w r B ba n cap bs a) (o : Out 0 0 w w') : RD w' r B ba n cap bs a :=
  ⟨h.1.kept o (.inr (Nat.zero_le _)), h.2.1.kept (Lo.of_out o) (Nat.le_refl _), h.2.2⟩
theorem RD.alloc {w : World} {r B n cap : Nat} {ba : Option Addr} {bs : List Int} {a : Nat} (h : RD w r B ba n cap bs a) (x : Obj) : RD (w.alloc x) r B ba n cap bs a := h.out ((Out.refl 0 0 w).alloc x)
theorem RD.lt {w : World} {r B n cap : Nat} {ba : Option Addr} {bs : List Int} {a : Nat} (h : RD w r B ba n cap bs a) : r < w.heap.size := h.1.lt
/-- what another block than the reader's keeps -/
theorem RD.off {w w' : World} {r B n cap : Nat} {ba : Option Addr} {bs : List Int} {a : Nat} (h : RD w r B ba n cap bs a) {lo hi : Nat} (o : Out lo hi w w') (hl : r < lo) : RD w' r B ba n cap bs a := by
  refine ⟨h.1.kept o (.inl hl), h.2.1.kept (C := lo) ⟨o.1, o.2.1, o.2.2.1, o.size, fun q h1 h2 => o.block h1 (by omega)⟩ (by have := h.2.2.2.1; omega), h.2.2⟩
theorem valN_up {row : List Int} {i : Nat} {b : Int} (h : row[i]? = some b) : valN (row.take (i + 1)) = valN (row.take i) + (b % 128).toNat * 128 ^ i := by
  induction row generalizing i with
  | nil => simp at h
  | cons c r ih =>
    cases i with
    | zero => simp at h; subst h; simp [valN]
    | succ i =>
      have := ih (i := i) (by simpa using h)
      simp only [List.take_succ_cons, valN]
      rw [this, Nat.mul_add, Nat.pow_succ, Nat.add_assoc, Nat.mul_left_comm]
      rw [Nat.mul_comm 128 (128 ^ i)]
theorem valN_lt (row : List Int) (hB : Byt row) : valN row < 128 ^ row.length := by
  induction row with
  | nil => simp [valN]
  | cons c r ih =>
    have := ih (fun x hx => hB x (List.mem_cons_of_mem _ hx))
    have hc := hB c (by simp)
    simp only [valN, List.length_cons, Nat.pow_succ]
    omega
/-- one digit more -/
theorem or_up {t b : Nat} {i : Nat} (h9 : i < 9) (ht : t < 128 ^ i) (hb : b < 128) : bits .or .i64 (t : Int) (IntKind.i64.wrap ((b : Int) * 2 ^ (7 * i))) = ((t + b * 128 ^ i : Nat) : Int) := by
  have hp : (128 : Nat) ^ i = 2 ^ (7 * i) := by rw [Nat.pow_mul]
  rw [hp] at ht ⊢
  have hle : (2 : Nat) ^ (7 * i) ≤ 72057594037927936 := by
    have : i = 0 ∨ i = 1 ∨ i = 2 ∨ i = 3 ∨ i = 4 ∨ i = 5 ∨ i = 6 ∨ i = 7 ∨ i = 8 := by omega
    rcases this with rfl | rfl | rfl | rfl | rfl | rfl | rfl | rfl | rfl <;> decide
  have hb2 : b * 2 ^ (7 * i) ≤ 127 * 72057594037927936 := Nat.mul_le_mul (by omega) hle
  have hc : (b : Int) * 2 ^ (7 * i) = ((b * 2 ^ (7 * i) : Nat) : Int) := by simp
  have hw : IntKind.i64.wrap ((b * 2 ^ (7 * i) : Nat) : Int) = ((b * 2 ^ (7 * i) : Nat) : Int) := by
    generalize b * 2 ^ (7 * i) = z at hb2
    simp [IntKind.wrap, IntKind.signed, IntKind.bits]; omega
  rw [hc, hw]
  have e : bits .or .i64 (t : Int) ((b * 2 ^ (7 * i) : Nat) : Int) = IntKind.wrap .i64 ((BitVec.ofInt 64 (t : Int) ||| BitVec.ofInt 64 ((b * 2 ^ (7 * i) : Nat) : Int)).toNat : Nat) := rfl
  have h : (BitVec.ofInt 64 (t : Int) ||| BitVec.ofInt 64 ((b * 2 ^ (7 * i) : Nat) : Int)).toNat = t + b * 2 ^ (7 * i) := by
    rw [BitVec.or_comm, BitVec.toNat_or, BitVec.ofInt_natCast, BitVec.ofInt_natCast, BitVec.toNat_ofNat, BitVec.toNat_ofNat, Nat.mod_eq_of_lt (by omega), Nat.mod_eq_of_lt (by omega), Nat.mul_comm, ← Nat.two_pow_add_eq_or_of_lt ht, Nat.add_comm]
  rw [e, h]
  generalize b * 2 ^ (7 * i) = z at *
  generalize (2 : Nat) ^ (7 * i) = y at *
  simp [IntKind.wrap, IntKind.signed, IntKind.bits]
  omega
theorem wrap64_i (x : Int) : wrap64 x = IntKind.i64.wrap x := by
  simp [wrap64, IntKind.wrap, IntKind.signed, IntKind.bits]
  split <;> omega
theorem or_val {row : List Int} {i : Nat} {b : Int} (hB : Byt row) (hb : row[i]? = some b) (h9 : i < 9) :
    Value.int .i64 (bits .or .i64 ((valN (row.take i) : Nat) : Int) (wrap64 (b % 128 * 2 ^ (7 * i)))) = .int .i64 ((valN (row.take (i + 1)) : Nat) : Int) := by
  have hbb := hB b (List.mem_of_getElem? hb)
  have hi := (List.getElem?_eq_some_iff.1 hb).1
  have hl := valN_lt (row.take i) (hB.take i)
  rw [List.length_take, Nat.min_eq_left (by omega)] at hl
  have e : b % 128 = (((b % 128).toNat : Nat) : Int) := by omega
  rw [wrap64_i, e, or_up h9 hl (by omega), valN_up hb]
end Go.Proofs.YtkghabmgofgclaaDoor
