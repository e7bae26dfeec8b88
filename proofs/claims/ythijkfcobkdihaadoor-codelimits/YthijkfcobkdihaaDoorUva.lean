/- the law CodeNumbers: its numbers -/
import Derived.Test.YthijkfcobkdihaaDoorUrh
namespace Go.Proofs.YthijkfcobkdihaaDoor
open Go.RowKit
set_option linter.unusedVariables false
set_option linter.unusedSimpArgs false

def nF (x bits y : Int) : List (Int × Int × Int × List (Int × Int)) := [(0, 0, 0, [(1, x), (5, bits), (14, y)])]
theorem n_ok {x bits y : Int} (hx : -1152921504606846976 ≤ x ∧ x ≤ 1152921504606846975) (hb : -9223372036854775808 ≤ bits ∧ bits ≤ 9223372036854775807) (hy : 0 ≤ y ∧ y ≤ 2097151) : okP (0, [], nF x bits y) := by
  refine ⟨by simp, by simp, (by intro t ht; cases ht), by simp [nF], ?_⟩
  intro f hf
  simp [nF] at hf
  subst hf
  refine ⟨by simp, by simp, by simp, by simp, ?_⟩
  intro z hz
  simp at hz
  rcases hz with rfl | rfl | rfl <;> (unfold okI opS; simp; try omega)
theorem n_mi {x bits y : Int} (hx : -1152921504606846976 ≤ x ∧ x ≤ 1152921504606846975) (hb : -9223372036854775808 ≤ bits ∧ bits ≤ 9223372036854775807) (hy : 0 ≤ y ∧ y ≤ 2097151) : ∀ f ∈ nF x bits y, MI f.2.2.2 := by
  intro f hf
  simp [nF] at hf
  subst hf
  intro z hz
  simp at hz
  rcases hz with rfl | rfl | rfl <;> (simp; try omega)
theorem n_enc (x bits y : Int) : encP (0, [], nF x bits y) = [104, 116, 104, 1, 0, 0, 1, 0, 0, 0, 3, 1] ++ (numB (zig x) ++ (5 :: (le8 bits ++ (14 :: numB y.toNat)))) := by
  simp [encP, nF, encF, encI, opB, opS, numB_lt]
theorem zig_lt {x : Int} (hx : -1152921504606846976 ≤ x ∧ x ≤ 1152921504606846975) : zig x < 2305843009213693952 := by
  unfold zig; split <;> omega
/-- the first loop: j bytes were read; R is what is left, U the unit, Z the sum -/
def LS (N : Nat) (E tail : List Int) (j R U Z : Nat) : Prop := U = 128 ^ j ∧ N = Z + R * U ∧ Z < U ∧ (j = 0 ∨ 1 ≤ R) ∧ E.drop (12 + j) = numB R ++ tail
theorem LS.start {N : Nat} {E tail : List Int} (h : E.drop 12 = numB N ++ tail) : LS N E tail 0 N 1 0 := ⟨rfl, by omega, by omega, .inl rfl, h⟩
theorem LS.step {N : Nat} {E tail : List Int} {j R U Z : Nat} (h : LS N E tail j R U Z) (hR : 128 ≤ R) : LS N E tail (j + 1) (R / 128) (U * 128) (Z + R % 128 * U) := by
  obtain ⟨h1, h2, h3, h4, h5⟩ := h
  have hd := Nat.div_add_mod R 128
  have hm : R % 128 < 128 := Nat.mod_lt _ (by decide)
  refine ⟨by rw [h1, Nat.pow_succ], ?_, ?_, .inr (by omega), ?_⟩
  · have e : R * U = R / 128 * (U * 128) + R % 128 * U := by
      conv => lhs; rw [← hd]
      rw [Nat.add_mul, Nat.mul_comm 128 (R / 128), Nat.mul_assoc, Nat.mul_comm 128 U]
    omega
  · have : R % 128 * U ≤ 127 * U := Nat.mul_le_mul_right _ (by omega)
    omega
  · rw [numB_ge hR] at h5
    rw [show 12 + (j + 1) = 12 + j + 1 by omega, ← List.drop_drop, h5]
    rfl
theorem LS.small {N : Nat} {E tail : List Int} {j R U Z : Nat} (h : LS N E tail j R U Z) (hN : N < 2305843009213693952) : j ≤ 8 ∧ 1 ≤ U ∧ U ≤ 72057594037927936 ∧ Z + R * U < 2305843009213693952 := by
  obtain ⟨h1, h2, h3, h4, h5⟩ := h
  have hj : j ≤ 8 := by
    rcases Nat.lt_or_ge 8 j with g | g
    · exfalso
      have hp : 128 ^ 9 ≤ 128 ^ j := Nat.pow_le_pow_right (by decide) g
      have hr : 1 ≤ R := by rcases h4 with h4 | h4 <;> omega
      have : U ≤ R * U := Nat.le_mul_of_pos_left _ hr
      omega
    · exact g
  have hp : 128 ^ j ≤ 128 ^ 8 := Nat.pow_le_pow_right (by decide) hj
  refine ⟨hj, by omega, by omega, by omega⟩
theorem LS.at_big {N : Nat} {E tail : List Int} {j R U Z : Nat} (h : LS N E tail j R U Z) (hR : 128 ≤ R) : E[12 + j]? = some (((128 + R % 128 : Nat)) : Int) := by
  have h5 := h.2.2.2.2
  rw [numB_ge hR] at h5
  have : (E.drop (12 + j))[0]? = some (((128 + R % 128 : Nat)) : Int) := by rw [h5]; rfl
  rwa [List.getElem?_drop, Nat.add_zero] at this
theorem LS.at_end {N : Nat} {E tail : List Int} {j R U Z : Nat} (h : LS N E tail j R U Z) (hR : R < 128) : E[12 + j]? = some (R : Int) ∧ ∀ i, E[12 + j + 1 + i]? = tail[i]? := by
  have h5 := h.2.2.2.2
  rw [numB_lt hR] at h5
  constructor
  · have : (E.drop (12 + j))[0]? = some (R : Int) := by rw [h5]; rfl
    rwa [List.getElem?_drop, Nat.add_zero] at this
  · intro i
    have : (E.drop (12 + j))[1 + i]? = tail[i]? := by rw [h5, Nat.add_comm 1 i]; rfl
    rwa [List.getElem?_drop, ← Nat.add_assoc] at this
theorem LS.len {N : Nat} {E tail : List Int} {j R U Z : Nat} (h : LS N E tail j R U Z) : E.length = 12 + j + (numB R).length + tail.length := by
  have h5 := congrArg List.length h.2.2.2.2
  have := List.length_pos_iff.2 (numB_ne R)
  rw [List.length_drop, List.length_append] at h5
  omega
theorem z_step {r U Z : Nat} (hr : r < 128) (h : (r : Int) * (U : Int) ≤ 2305843009213693952) (hZ : Z ≤ 2305843009213693952) : wrap64 ((Z : Int) + wrap64 ((128 + (r : Int) - 128) % 256 * (U : Int))) = ((Z + r * U : Nat) : Int) := by
  have e : (128 + (r : Int) - 128) % 256 = r := by omega
  have e2 : ((Z + r * U : Nat) : Int) = (Z : Int) + (r : Int) * (U : Int) := by rw [Int.natCast_add, Int.natCast_mul]
  have e3 : 0 ≤ (r : Int) * (U : Int) := Int.mul_nonneg (by omega) (by omega)
  rw [e, e2]
  generalize (r : Int) * (U : Int) = q at *
  unfold wrap64
  omega
theorem u_step {U : Nat} (h : U ≤ 18014398509481984) : wrap64 ((U : Int) * 128) = ((U * 128 : Nat) : Int) := by
  have e : ((U * 128 : Nat) : Int) = (U : Int) * 128 := by omega
  rw [e]
  unfold wrap64
  omega
theorem z_last {N R U Z : Nat} (h : N = Z + R * U) (hN : N < 2305843009213693952) : wrap64 ((Z : Int) + wrap64 ((R : Int) * (U : Int))) = (N : Int) := by
  have e2 : (N : Int) = (Z : Int) + (R : Int) * (U : Int) := by rw [h, Int.natCast_add, Int.natCast_mul]
  have e3 : 0 ≤ (R : Int) * (U : Int) := Int.mul_nonneg (by omega) (by omega)
  have e4 : (N : Int) < 2305843009213693952 := by omega
  rw [e2] at *
  generalize (R : Int) * (U : Int) = q at *
  unfold wrap64
  omega
theorem par_even {N : Nat} {x : Int} (h : zag N = x) (hx : 0 ≤ x) (hN : N < 2305843009213693952) : (N : Int) % 2 = 0 ∧ wrap64 ((N : Int) / 2) = x := by
  unfold zag at h
  unfold wrap64
  split at h <;> omega
theorem par_odd {N : Nat} {x : Int} (h : zag N = x) (hx : x < 0) (hN : N < 2305843009213693952) : (N : Int) % 2 = 1 ∧ wrap64 (wrap64 (-wrap64 ((N : Int) / 2)) - 1) = x := by
  unfold zag at h
  unfold wrap64
  split at h <;> omega
theorem le8_at (bits : Int) {k : Nat} (hk : k < 8) : (le8 bits)[k]? = some (bits % 18446744073709551616 / 256 ^ k % 256) := by
  rw [le8_eq]
  match k, hk with
  | 0, _ => simp
  | 1, _ => simp; omega
  | 2, _ => simp; omega
  | 3, _ => simp; omega
  | 4, _ => simp; omega
  | 5, _ => simp; omega
  | 6, _ => simp; omega
  | 7, _ => simp; omega
theorem le8_step {V : Int} (h0 : 0 ≤ V) (h1 : V < 18446744073709551616) (k : Nat) : V / 256 ^ (k + 1) * 256 + V / 256 ^ k % 256 = V / 256 ^ k ∧ 0 ≤ V / 256 ^ (k + 1) * 256 + V / 256 ^ k % 256 ∧ V / 256 ^ (k + 1) * 256 + V / 256 ^ k % 256 < 18446744073709551616 ∧ 0 ≤ V / 256 ^ k % 256 ∧ V / 256 ^ k % 256 < 256 ∧ 0 ≤ V / 256 ^ (k + 1) := by
  have hp : (0 : Int) < 256 ^ k := Int.pow_pos (by decide)
  have e : V / 256 ^ (k + 1) = V / 256 ^ k / 256 := by rw [Int.pow_succ, Int.ediv_ediv_of_nonneg (Int.le_of_lt hp)]
  have g0 : 0 ≤ V / 256 ^ k := Int.ediv_nonneg h0 (Int.le_of_lt hp)
  have g1 : V / 256 ^ k ≤ V := Int.ediv_le_self _ h0
  rw [e]
  generalize V / 256 ^ k = Y at *
  omega
theorem u_round {X q : Int} (h : 0 ≤ X * 256 + q ∧ X * 256 + q < 18446744073709551616 ∧ 0 ≤ q ∧ q < 256 ∧ 0 ≤ X) : IntKind.u64.wrap (IntKind.u64.wrap (X * 256) + IntKind.u64.wrap q) = X * 256 + q := by
  simp [IntKind.wrap, IntKind.signed, IntKind.bits]
  omega
theorem bits_back {bits V : Int} (hV : bits % 18446744073709551616 = V) (h : -9223372036854775808 ≤ bits ∧ bits ≤ 9223372036854775807) : wrap64 V = bits := by
  unfold wrap64
  omega
/-- Write in words of the law's -/
theorem write_at {w : World} {B : Nat} (hT : Ty w) (hB : B ≤ w.heap.size) (x : Int) (ts : List (List Int)) (fs : List (Int × Int × Int × List (Int × Int))) (ta fa : Option Addr) (nt tc nf fc : Nat) (hnt : ts.length = nt) (hnf : fs.length = nf) (hts : TxIn w B ta ts) (hfs : FnIn w B fa fs) (hM : ∀ f ∈ fs, MI f.2.2.2) (hBt : Byt (wrB (x, ts, fs))) :
    Calls Tryd.prog 10 #[.agg #[.int .i64 x, .slice ta nt tc, .slice fa nf fc]] w fun e w' => ∃ ra K cap, e = .returned (.tuple #[.slice ra K cap, .int .i64 (wrE (x, ts, fs))]) ∧ Out 0 0 w w' ∧ ByIn w' w'.heap.size ra (wrB (x, ts, fs)) ∧ (wrB (x, ts, fs)).length = K ∧ K ≤ cap :=
  (write_any hT hB x ts fs ta fa nt tc nf fc hnt hnf hts hfs hM).mono fun e w' ⟨ra, K, cap, h1, h2, h3, h4⟩ => ⟨ra, K, cap, h1, h2, ByIn.own hBt h3 (fun q hq => (own_ge h3 hq).2), h4, by
    rcases h3.2 with ⟨q, q'⟩ | ⟨g, c2, cur, q, _, _, h9, _⟩
    · cases q; omega
    · cases q; exact h9⟩
end Go.Proofs.YthijkfcobkdihaaDoor
