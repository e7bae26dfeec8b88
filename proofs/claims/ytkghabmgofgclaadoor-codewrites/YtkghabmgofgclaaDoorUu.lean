/- package code: bits and fixnums are read -/
import Derived.Test.YtkghabmgofgclaaDoorUt
namespace Go.Proofs.YtkghabmgofgclaaDoor
open Go.RowKit
set_option linter.unusedVariables false
set_option linter.unusedSimpArgs false

theorem un8_up {row : List Int} {i : Nat} {b : Int} (h : row[i]? = some b) : un8 (row.take (i + 1)) = un8 (row.take i) + b * 256 ^ i := by
  induction row generalizing i with
  | nil => simp at h
  | cons c r ih =>
    cases i with
    | zero => simp at h; subst h; simp [un8]
    | succ i =>
      have := ih (i := i) (by simpa using h)
      simp only [List.take_succ_cons, un8]
      rw [this, Int.mul_add, Int.pow_succ, Int.add_assoc, Int.mul_left_comm, Int.mul_comm 256 (256 ^ i)]
theorem un8_lt (row : List Int) (hB : Byt row) : 0 ≤ un8 row ∧ un8 row < 256 ^ row.length := by
  induction row with
  | nil => simp [un8]
  | cons c r ih =>
    have := ih (fun x hx => hB x (List.mem_cons_of_mem _ hx))
    have hc := hB c (by simp)
    simp only [un8, List.length_cons, Int.pow_succ]
    omega
theorem ofInt_sg (x : Int) (y : Int) (h : x % 18446744073709551616 = y % 18446744073709551616) : BitVec.ofInt 64 x = BitVec.ofInt 64 y := by
  apply BitVec.eq_of_toNat_eq
  rw [BitVec.toNat_ofInt, BitVec.toNat_ofInt]
  exact congrArg Int.toNat h
theorem sg8_mod (l : List Int) : sg8 l % 18446744073709551616 = un8 l % 18446744073709551616 := by
  have := sg8_or l
  omega
theorem wrap64_mod (x : Int) : wrap64 x % 18446744073709551616 = x % 18446744073709551616 := by unfold wrap64; omega
theorem or_bits {t z : Nat} {i : Nat} (ht : t < 2 ^ (8 * i)) (hz : z * 2 ^ (8 * i) + t < 18446744073709551616) : (BitVec.ofInt 64 (t : Int) ||| BitVec.ofInt 64 ((z * 2 ^ (8 * i) : Nat) : Int)).toNat = t + z * 2 ^ (8 * i) := by
  rw [BitVec.or_comm, BitVec.toNat_or, BitVec.ofInt_natCast, BitVec.ofInt_natCast, BitVec.toNat_ofNat, BitVec.toNat_ofNat, Nat.mod_eq_of_lt (by omega), Nat.mod_eq_of_lt (by omega), Nat.mul_comm, ← Nat.two_pow_add_eq_or_of_lt ht, Nat.add_comm]
theorem or8_val {row : List Int} {i : Nat} {b : Int} (hB : Byt row) (hb : row[i]? = some b) (h8 : i < 8) :
    Value.int .i64 (bits .or .i64 (sg8 (row.take i)) (wrap64 (b * 2 ^ (8 * i)))) = .int .i64 (sg8 (row.take (i + 1))) := by
  have hbb := hB b (List.mem_of_getElem? hb)
  have hi := (List.getElem?_eq_some_iff.1 hb).1
  have hl := un8_lt (row.take i) (hB.take i)
  rw [List.length_take, Nat.min_eq_left (by omega)] at hl
  have hp : (256 : Int) ^ i = ((2 ^ (8 * i) : Nat) : Int) := by rw [Nat.pow_mul]; simp
  have hq : (2 : Int) ^ (8 * i) = ((2 ^ (8 * i) : Nat) : Int) := by simp
  have hle : (2 : Nat) ^ (8 * i) ≤ 72057594037927936 := by
    have : i = 0 ∨ i = 1 ∨ i = 2 ∨ i = 3 ∨ i = 4 ∨ i = 5 ∨ i = 6 ∨ i = 7 := by omega
    rcases this with rfl | rfl | rfl | rfl | rfl | rfl | rfl | rfl <;> decide
  obtain ⟨t, ht⟩ := Int.eq_ofNat_of_zero_le hl.1
  obtain ⟨z, hz⟩ := Int.eq_ofNat_of_zero_le hbb.1
  have hz255 : z ≤ 255 := by omega
  have hzm : z * 2 ^ (8 * i) ≤ 255 * 72057594037927936 := Nat.mul_le_mul hz255 hle
  rw [hp, ht] at hl
  have htl : t < 2 ^ (8 * i) := by omega
  have e : bits .or .i64 (sg8 (row.take i)) (wrap64 (b * 2 ^ (8 * i))) = IntKind.wrap .i64 ((BitVec.ofInt 64 (sg8 (row.take i)) ||| BitVec.ofInt 64 (wrap64 (b * 2 ^ (8 * i)))).toNat : Nat) := rfl
  have e1 : BitVec.ofInt 64 (sg8 (row.take i)) = BitVec.ofInt 64 (t : Int) := ofInt_sg _ _ (by rw [sg8_mod, ht])
  have e2 : BitVec.ofInt 64 (wrap64 (b * 2 ^ (8 * i))) = BitVec.ofInt 64 ((z * 2 ^ (8 * i) : Nat) : Int) := ofInt_sg _ _ (by rw [wrap64_mod, hz, hq, Int.natCast_mul])
  have hsum : z * 2 ^ (8 * i) + t < 18446744073709551616 := by omega
  rw [e, e1, e2, or_bits htl hsum]
  have hu : un8 (row.take (i + 1)) = ((t + z * 2 ^ (8 * i) : Nat) : Int) := by
    rw [un8_up hb, ht, hz, hp]; simp
  have hs := sg8_or (row.take (i + 1))
  rw [hu] at hs
  have hT : t + z * 2 ^ (8 * i) < 18446744073709551616 := by omega
  clear hu hsum e e1 e2 htl hzm hz255 hz ht hl hle hq hp hbb hi
  generalize sg8 (row.take (i + 1)) = S at *
  generalize t + z * 2 ^ (8 * i) = T at *
  congr 1
  simp [IntKind.wrap, IntKind.signed, IntKind.bits]
  split <;> omega
set_option maxRecDepth 100000 in
set_option maxHeartbeats 1000000 in
theorem rbits_any {w : World} {r B n cap : Nat} {ba : Option Addr} {bs : List Int} {a : Nat} (h : RD w r B ba n cap bs a) :
    Calls Tryd.prog 107 #[.pointer (some ⟨r, 0, none⟩)] w fun e w' => Out r (r + 1) w w' ∧ ((∃ row c, takeR 8 bs a = .inr (row, c) ∧ e = .returned (.int .i64 (sg8 row)) ∧ RD w' r B ba n cap bs c) ∨ takeR 8 bs a = .inl (61, n) ∧ e = .panicked [stopP 61 n]) := by
  have HR := hid_mk h
  have hlen : Hid (bs.length = n) := h.2.2.1
  have hal : Hid (a ≤ n) := h.2.2.2.2.1
  clear h
  by_cases hj : a + 8 ≤ n
  · obtain ⟨row, hro⟩ : ∃ row, (bs.drop a).take 8 = row := ⟨_, rfl⟩
    have hrl : row.length = 8 := by rw [← hro, List.length_take, List.length_drop, hlen.out]; omega
    have HRow : Hid (takeR 8 bs a = .inr (row, a + 8)) := hid_mk (by rw [take_ok (by rw [hlen.out]; exact hj), hro])
    have HRl := hid_mk hrl
    have HT : Hid (Calls Tryd.prog 85 #[.pointer (some ⟨r, 0, none⟩), .int .i64 8] w fun e w' => ∃ A' C', e = .returned (.slice A' 8 C') ∧ ByIn w' B A' row ∧ RD w' r B ba n cap bs (a + 8) ∧ Out r (r + 1) w w') := hid_mk ((take_go HR.out 8 hj).mono fun e w' ⟨A', C', h1, _, h2, h3, h4⟩ => ⟨A', C', h1, hro ▸ h2, h3, h4⟩)
    clear hj hro hrl
    go_enter Tryd.func107, Tryd.ntmps107
    go_wp2_with (go_at_call 85; refine HT.out.mono ?_; rintro e w3 ⟨A', C', rfl, hin, hrd, ho3⟩)
    have HI := hid_mk hin
    have HRD := hid_mk hrd
    have HO := hid_mk ho3
    clear hin hrd ho3
    go_loopw [3, 9] (fun nv iv wr => ∃ i : Nat, iv = .int .i64 i ∧ i ≤ 8 ∧ nv = .int .i64 (sg8 (row.take i)) ∧ wr = w3) (fun _ iv _ => 8 - (intOf iv).toNat)
    case atStart => exact ⟨0, rfl, Nat.zero_le _, rfl, rfl⟩
    case round =>
      obtain ⟨i, rfl, hik, rfl, rfl⟩ := hrel
      by_cases hgo : i < 8
      · have g1 : (i : Int) < 8 := by omega
        obtain ⟨b, hb⟩ : ∃ b, row[i]? = some b := ⟨_, List.getElem?_eq_getElem (by have := HRl.out; omega)⟩
        have HX := hid_mk hb
        have HB0 := hid_mk (HI.out.1 b (List.mem_of_getElem? hb))
        rcases HI.out.2 with h0 | ⟨g, off, rfl, hg, hc⟩
        · rw [h0] at hb; cases hb
        have d0 := hc i b hb
        have b0 := HB0.out.1
        have b1 := HB0.out.2
        clear hb hc hg
        have HV := hid_mk (or8_val HI.out.1 HX.out hgo)
        go_wp2
        go_roundw
        case rel => exact ⟨i + 1, by go_num, by omega, HV.out, trivial⟩
        case measure => simp [intOf]; omega
      · have hiE : i = 8 := by omega
        clear hgo hik
        subst hiE
        have hT : row.take 8 = row := take_all HRl.out
        rw [hT]
        clear hT
        go_wp2
        go_ret
        exact ⟨HO.out, .inl ⟨row, _, HRow.out, rfl, HRD.out⟩⟩
  · have HT := hid_mk (take_end HR.out 8 (by omega))
    have HE : Hid (takeR 8 bs a = .inl (61, n)) := hid_mk (by rw [take_err (by rw [hlen.out]; omega) (by rw [hlen.out]; exact hal.out), hlen.out])
    clear hj
    go_enter Tryd.func107, Tryd.ntmps107
    go_wp2_with (go_at_call 85; refine HT.out.mono ?_; rintro e w3 ⟨rfl, ho3⟩)
    exact ⟨rfl, ho3.any _ _, .inr ⟨HE.out, rfl⟩⟩
theorem num_in {lo hi : Nat} {bs : List Int} {a v c : Nat} (h : numR lo hi bs a = .inr (v, c)) : lo ≤ v ∧ v ≤ hi := by
  rcases bnd_inv h with ⟨x, _, hx⟩ | ⟨row, e1, hr, hp⟩
  · cases hx
  cases hp
  rcases chk_inv hr with ⟨x, _, hx⟩ | ⟨row', e1', hr', hok, hx⟩ | ⟨row', e1', _, _, hx⟩
  · cases hx
  · cases hx; exact hok.2
  · cases hx
theorem zag_even {v : Nat} (hv : v ≤ 2305843009213693951) (h : v % 2 = 0) : wrap64 ((v : Int) / 2) = zag v := by unfold zag wrap64; rw [if_pos h]; omega
theorem zag_odd {v : Nat} (hv : v ≤ 2305843009213693951) (h : ¬ v % 2 = 0) : wrap64 (wrap64 (-wrap64 ((v : Int) / 2)) - 1) = zag v := by unfold zag wrap64; rw [if_neg h]; omega
set_option maxRecDepth 100000 in
theorem rsigned_any {w : World} {r B n cap : Nat} {ba : Option Addr} {bs : List Int} {a : Nat} (h : RD w r B ba n cap bs a) :
    Calls Tryd.prog 106 #[.pointer (some ⟨r, 0, none⟩)] w fun e w' => Out r (r + 1) w w' ∧ ((∃ v c, numR 0 2305843009213693951 bs a = .inr (v, c) ∧ e = .returned (.int .i64 (zag v)) ∧ RD w' r B ba n cap bs c) ∨ ∃ x q, numR 0 2305843009213693951 bs a = .inl (x, q) ∧ e = .panicked [stopP x (q : Int)]) := by
  have HN := hid_mk (rnum_any h 0 2305843009213693951)
  clear h
  go_enter Tryd.func106, Tryd.ntmps106
  go_wp2_with fail
  refine HN.out.mono ?_
  rintro e w2 ⟨ho, ⟨v, c, h1, rfl, hrd⟩ | ⟨x, q, h1, rfl⟩⟩
  · have H1 := hid_mk h1
    have HO := hid_mk ho
    have HRD := hid_mk hrd
    clear h1 ho hrd
    by_cases hv : v % 2 = 0
    · have e1 : ((v : Int) % 2 == 0) = true := by simp; omega
      have HV := hid_mk (zag_even (num_in H1.out).2 hv)
      clear hv
      go_wp2
      go_ret
      exact ⟨HO.out, .inl ⟨v, c, H1.out, ret_int HV.out, HRD.out⟩⟩
    · have e1 : ((v : Int) % 2 == 0) = false := by simp; omega
      have HV := hid_mk (zag_odd (num_in H1.out).2 hv)
      clear hv
      go_wp2
      go_ret
      exact ⟨HO.out, .inl ⟨v, c, H1.out, ret_int HV.out, HRD.out⟩⟩
  · exact ⟨rfl, ho, .inr ⟨x, q, h1, rfl⟩⟩
end Go.Proofs.YtkghabmgofgclaaDoor
