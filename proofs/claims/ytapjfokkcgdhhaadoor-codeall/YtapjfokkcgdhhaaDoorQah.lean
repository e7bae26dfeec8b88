import Derived.Test.YtapjfokkcgdhhaaDoorQag
namespace Go.Proofs.YtapjfokkcgdhhaaDoor
open Go.RowKit
set_option linter.unusedVariables false
set_option linter.unusedSimpArgs false

set_option maxRecDepth 100000 in
set_option maxHeartbeats 1000000 in
theorem rnum_any {w : World} {r B n cap : Nat} {ba : Option Addr} {bs : List Int} {a : Nat} (h : RD w r B ba n cap bs a) (lo hi : Nat) :
    Calls Tryd.prog 53 #[.pointer (some ⟨r, 0, none⟩), .int .i64 lo, .int .i64 hi] w fun e w' => Out r (r + 1) w w' ∧ ((∃ v c, numR lo hi bs a = .inr (v, c) ∧ e = .returned (.int .i64 (v : Int)) ∧ RD w' r B ba n cap bs c) ∨ ∃ x q, numR lo hi bs a = .inl (x, q) ∧ e = .panicked [stopP x (q : Int)]) := by
  have c1 := h.1.cell (i := 1) rfl
  have HR := hid_mk h
  have hlen : Hid (bs.length = n) := h.2.2.1
  have HS := hid_mk (size_any h)
  clear h
  by_cases hj : lead 9 (bs.drop a) < 9 ∧ lead 9 (bs.drop a) < n - a
  · have hrow : rowR bs a = _ := row_ok hj.1 (by rw [hlen.out]; exact hj.2)
    obtain ⟨k, hk⟩ : ∃ k, lead 9 (bs.drop a) + 1 = k := ⟨_, rfl⟩
    obtain ⟨row, hro⟩ : ∃ row, (bs.drop a).take k = row := ⟨_, rfl⟩
    rw [hk, hro] at hrow
    have hrl : row.length = k := by rw [← hro, List.length_take, List.length_drop, hlen.out]; omega
    have HRow := hid_mk hrow
    have HRl := hid_mk hrl
    have HK : Hid (1 ≤ k ∧ k ≤ 9 ∧ a + k ≤ n) := hid_mk (by omega)
    have HS1 : Hid (Calls Tryd.prog 63 #[.pointer (some ⟨r, 0, none⟩)] w fun e w' => Out 0 0 w w' ∧ e = .returned (.int .i64 (k : Int))) := hid_mk (HS.out.mono fun e w' ⟨ho, q⟩ => ⟨ho, by
      rcases q with ⟨_, q⟩ | ⟨q, _⟩
      · rw [q, hk]
      · exact absurd hj q⟩)
    have HT : Hid (∀ w2, Out 0 0 w w2 → Calls Tryd.prog 55 #[.pointer (some ⟨r, 0, none⟩), .int .i64 (k : Int)] w2 fun e w' => ∃ A' C', e = .returned (.slice A' k C') ∧ ByIn w' B A' row ∧ RD w' r B ba n cap bs (a + k) ∧ Out r (r + 1) w w') := hid_mk fun w2 o2 => (take_go (HR.out.out o2) k HK.out.2.2).mono fun e w' ⟨A', C', h1, _, h2, h3, h4⟩ => ⟨A', C', h1, hro ▸ h2, h3, (o2.any _ _).trans h4⟩
    clear hj hrow hk hro hrl
    go_enter Tryd.func53, Tryd.ntmps53
    go_wp2_with (first
      | (go_at_call 63; refine HS1.out.mono ?_; rintro e w2 ⟨ho2, rfl⟩)
      | (go_at_call 55; refine (HT.out _ ho2).mono ?_; rintro e w3 ⟨A', C', rfl, hin, hrd, ho3⟩))
    have HI := hid_mk hin
    have HRD := hid_mk hrd
    have HO := hid_mk ho3
    clear hin hrd ho3 ho2
    have hk9 : (k : Int) ≤ 9 := by have := HK.out; omega
    go_loopw [8, 23] (fun nv iv wr => ∃ i : Nat, iv = .int .i64 i ∧ i ≤ k ∧ nv = .int .i64 ((valN (row.take i) : Nat) : Int) ∧ wr = w3) (fun _ iv _ => k - (intOf iv).toNat)
    case atStart => exact ⟨0, rfl, Nat.zero_le _, rfl, rfl⟩
    case round =>
      obtain ⟨i, rfl, hik, rfl, rfl⟩ := hrel
      by_cases hgo : i < k
      · have g1 : (i : Int) < (k : Int) := by omega
        obtain ⟨b, hb⟩ : ∃ b, row[i]? = some b := ⟨_, List.getElem?_eq_getElem (by have := HRl.out; omega)⟩
        have HX := hid_mk hb
        have HB0 := hid_mk (HI.out.1 b (List.mem_of_getElem? hb))
        rcases HI.out.2 with h0 | ⟨g, off, rfl, hg, hc⟩
        · rw [h0] at hb; cases hb
        have d0 := hc i b hb
        have b0 := HB0.out.1
        have b1 := HB0.out.2
        clear hb hc hg
        have HV := hid_mk (or_val HI.out.1 HX.out (by omega))
        go_wp2
        go_roundw
        case rel => exact ⟨i + 1, by go_num, by omega, HV.out, trivial⟩
        case measure => simp [intOf]; omega
      · have hiE : i = k := by omega
        have g1 : ¬ ((i : Int) < (k : Int)) := by omega
        clear hgo hik
        subst hiE
        have hT : row.take i = row := take_all HRl.out
        rw [hT]
        clear hT
        obtain ⟨m, rfl⟩ : ∃ m, i = m + 1 := ⟨i - 1, by have := HK.out; omega⟩
        obtain ⟨b, hb⟩ : ∃ b, row[m]? = some b := ⟨_, List.getElem?_eq_getElem (by have := HRl.out; omega)⟩
        have HX := hid_mk hb
        have hlast : Hid (row.getLast? = some b) := hid_mk (by rw [List.getLast?_eq_getElem?, HRl.out]; exact hb)
        rcases HI.out.2 with h0 | ⟨g, off, rfl, hg, hc⟩
        · rw [h0] at hb; cases hb
        have d0 := hc m b hb
        clear hb hc hg
        obtain ⟨v, hv⟩ : ∃ v, valN row = v := ⟨_, rfl⟩
        rw [hv]
        have HV := hid_mk hv
        clear hv
        have HQ : Hid (∀ ok, okRow lo hi row = ok → True) := hid_mk fun _ _ => trivial
        by_cases hA : m = 0
        · subst hA
          by_cases hB : lo ≤ v ∧ v ≤ hi
          · have e1 : decide (lo ≤ v) = true := by simpa using hB.1
            have e2 : decide (v ≤ hi) = true := by simpa using hB.2
            have HOK : Hid (okRow lo hi row) := hid_mk ⟨.inl (by rw [HRl.out]), by rw [HV.out]; omega⟩
            clear hB
            go_wp2_with (go_at_call 26; refine calls_same (want_yes _ _ _) ?_)
            go_ret
            refine ⟨HO.out, .inl ⟨v, _, ?_, rfl, HRD.out⟩⟩
            unfold numR
            rw [bnd_ok (chk_ok HRow.out HOK.out), HV.out]; rfl
          · have HOK : Hid (¬ okRow lo hi row) := hid_mk fun q => hB (by have := q.2; rw [HV.out] at this; omega)
            have HE : Hid ((decide (lo ≤ v) && decide (v ≤ hi)) = false) := hid_mk (by simp; omega)
            clear hB
            rcases e1 : decide (lo ≤ v) with _ | _
            · go_wp2_with (go_at_call 26; refine want_any _ _ _ ?_ ?_ <;> intro hh <;> first | (exact absurd hh (by decide)) | clear hh)
              refine ⟨rfl, HO.out, .inr ⟨60, a, ?_, rfl⟩⟩
              unfold numR
              exact bnd_err (chk_no HRow.out HOK.out)
            · have e2 : decide (v ≤ hi) = false := by have := HE.out; rw [e1] at this; simpa using this
              go_wp2_with (go_at_call 26; refine want_any _ _ _ ?_ ?_ <;> intro hh <;> first | (exact absurd hh (by decide)) | clear hh)
              refine ⟨rfl, HO.out, .inr ⟨60, a, ?_, rfl⟩⟩
              unfold numR
              exact bnd_err (chk_no HRow.out HOK.out)
        · have hm0 : ((m : Int) == 0) = false := by simp; omega
          have hmk : (m : Int) + 1 ≤ 9 := by have := HK.out; omega
          by_cases hb0 : b = 0
          · have hbn : (b != 0) = false := by simp [hb0]
            have HOK : Hid (¬ okRow lo hi row) := hid_mk fun q => by
              rcases q.1 with q | q
              · rw [HRl.out] at q; omega
              · rw [hlast.out, hb0] at q; exact q rfl
            clear hb0 hA
            go_wp2_with (go_at_call 26; refine want_any _ _ _ ?_ ?_ <;> intro hh <;> first | (exact absurd hh (by decide)) | clear hh)
            refine ⟨rfl, HO.out, .inr ⟨60, a, ?_, rfl⟩⟩
            unfold numR
            exact bnd_err (chk_no HRow.out HOK.out)
          · have hbn : (b != 0) = true := by simpa using hb0
            have HB0 := hid_mk hb0
            clear hb0 hA
            by_cases hB : lo ≤ v ∧ v ≤ hi
            · have e1 : decide (lo ≤ v) = true := by simpa using hB.1
              have e2 : decide (v ≤ hi) = true := by simpa using hB.2
              have HOK : Hid (okRow lo hi row) := hid_mk ⟨.inr (by rw [hlast.out]; intro q; exact HB0.out (Option.some.inj q)), by rw [HV.out]; omega⟩
              clear hB
              go_wp2_with (go_at_call 26; refine calls_same (want_yes _ _ _) ?_)
              go_ret
              refine ⟨HO.out, .inl ⟨v, _, ?_, rfl, HRD.out⟩⟩
              unfold numR
              rw [bnd_ok (chk_ok HRow.out HOK.out), HV.out]; rfl
            · have HOK : Hid (¬ okRow lo hi row) := hid_mk fun q => hB (by have := q.2; rw [HV.out] at this; omega)
              have HE : Hid ((decide (lo ≤ v) && decide (v ≤ hi)) = false) := hid_mk (by simp; omega)
              clear hB
              rcases e1 : decide (lo ≤ v) with _ | _
              · go_wp2_with (go_at_call 26; refine want_any _ _ _ ?_ ?_ <;> intro hh <;> first | (exact absurd hh (by decide)) | clear hh)
                refine ⟨rfl, HO.out, .inr ⟨60, a, ?_, rfl⟩⟩
                unfold numR
                exact bnd_err (chk_no HRow.out HOK.out)
              · have e2 : decide (v ≤ hi) = false := by have := HE.out; rw [e1] at this; simpa using this
                go_wp2_with (go_at_call 26; refine want_any _ _ _ ?_ ?_ <;> intro hh <;> first | (exact absurd hh (by decide)) | clear hh)
                refine ⟨rfl, HO.out, .inr ⟨60, a, ?_, rfl⟩⟩
                unfold numR
                exact bnd_err (chk_no HRow.out HOK.out)
  · have hj' : ¬ (lead 9 (bs.drop a) < 9 ∧ lead 9 (bs.drop a) < bs.length - a) := by rw [hlen.out]; exact hj
    have HJ := hid_mk hj'
    have HJ2 := hid_mk hj
    clear hj hj'
    go_enter Tryd.func53, Tryd.ntmps53
    go_wp2_with fail
    refine HS.out.mono ?_
    rintro e w2 ⟨ho2, ⟨q, _⟩ | ⟨_, ⟨q, rfl⟩ | ⟨q, rfl⟩⟩⟩
    · exact absurd q HJ2.out
    · refine ⟨rfl, ho2.any _ _, .inr ⟨61, n, ?_, rfl⟩⟩
      have := row_end HJ.out (by rw [hlen.out]; exact q)
      rw [hlen.out] at this
      unfold numR
      exact bnd_err (chk_err this)
    · refine ⟨rfl, ho2.any _ _, .inr ⟨60, a, ?_, rfl⟩⟩
      unfold numR
      exact bnd_err (chk_err (row_bad HJ.out (by rw [hlen.out]; exact q)))
end Go.Proofs.YtapjfokkcgdhhaaDoor
namespace Go.Proofs.YtapjfokkcgdhhaaDoor
open Go.RowKit
set_option linter.unusedVariables false
set_option linter.unusedSimpArgs false

theorem un8_up {row : List Int} {i : Nat} {b : Int} (h : row[i]? = some b) : un8 (row.take (i + 1)) = un8 (row.take i) + b * 256 ^ i := by
  induction row generalizing i with
  | nil => simp at h
  | cons c r ih =>
    cases i with
    | zero => simp at h; subst h; simp [un8]
    | succ i =>
      have := ih (i := i) (by simpa using h)
      simp only [List.take_succ_cons, un8]
      rw [this, Int.mul_add, Int.pow_succ, Int.add_assoc, Int.mul_left_comm, Int.mul_comm 256 (256 ^ i)]
theorem un8_lt (row : List Int) (hB : Byt row) : 0 ≤ un8 row ∧ un8 row < 256 ^ row.length := by
  induction row with
  | nil => simp [un8]
  | cons c r ih =>
    have := ih (fun x hx => hB x (List.mem_cons_of_mem _ hx))
    have hc := hB c (by simp)
    simp only [un8, List.length_cons, Int.pow_succ]
    omega
theorem ofInt_sg (x : Int) (y : Int) (h : x % 18446744073709551616 = y % 18446744073709551616) : BitVec.ofInt 64 x = BitVec.ofInt 64 y := by
  apply BitVec.eq_of_toNat_eq
  rw [BitVec.toNat_ofInt, BitVec.toNat_ofInt]
  exact congrArg Int.toNat h
theorem sg8_mod (l : List Int) : sg8 l % 18446744073709551616 = un8 l % 18446744073709551616 := by
  have := sg8_or l
  omega
theorem wrap64_mod (x : Int) : wrap64 x % 18446744073709551616 = x % 18446744073709551616 := by unfold wrap64; omega
theorem or_bits {t z : Nat} {i : Nat} (ht : t < 2 ^ (8 * i)) (hz : z * 2 ^ (8 * i) + t < 18446744073709551616) : (BitVec.ofInt 64 (t : Int) ||| BitVec.ofInt 64 ((z * 2 ^ (8 * i) : Nat) : Int)).toNat = t + z * 2 ^ (8 * i) := by
  rw [BitVec.or_comm, BitVec.toNat_or, BitVec.ofInt_natCast, BitVec.ofInt_natCast, BitVec.toNat_ofNat, BitVec.toNat_ofNat, Nat.mod_eq_of_lt (by omega), Nat.mod_eq_of_lt (by omega), Nat.mul_comm, ← Nat.two_pow_add_eq_or_of_lt ht, Nat.add_comm]
theorem or8_val {row : List Int} {i : Nat} {b : Int} (hB : Byt row) (hb : row[i]? = some b) (h8 : i < 8) :
    Value.int .i64 (bits .or .i64 (sg8 (row.take i)) (wrap64 (b * 2 ^ (8 * i)))) = .int .i64 (sg8 (row.take (i + 1))) := by
  have hbb := hB b (List.mem_of_getElem? hb)
  have hi := (List.getElem?_eq_some_iff.1 hb).1
  have hl := un8_lt (row.take i) (hB.take i)
  rw [List.length_take, Nat.min_eq_left (by omega)] at hl
  have hp : (256 : Int) ^ i = ((2 ^ (8 * i) : Nat) : Int) := by rw [Nat.pow_mul]; simp
  have hq : (2 : Int) ^ (8 * i) = ((2 ^ (8 * i) : Nat) : Int) := by simp
  have hle : (2 : Nat) ^ (8 * i) ≤ 72057594037927936 := by
    have : i = 0 ∨ i = 1 ∨ i = 2 ∨ i = 3 ∨ i = 4 ∨ i = 5 ∨ i = 6 ∨ i = 7 := by omega
    rcases this with rfl | rfl | rfl | rfl | rfl | rfl | rfl | rfl <;> decide
  obtain ⟨t, ht⟩ := Int.eq_ofNat_of_zero_le hl.1
  obtain ⟨z, hz⟩ := Int.eq_ofNat_of_zero_le hbb.1
  have hz255 : z ≤ 255 := by omega
  have hzm : z * 2 ^ (8 * i) ≤ 255 * 72057594037927936 := Nat.mul_le_mul hz255 hle
  rw [hp, ht] at hl
  have htl : t < 2 ^ (8 * i) := by omega
  have e : bits .or .i64 (sg8 (row.take i)) (wrap64 (b * 2 ^ (8 * i))) = IntKind.wrap .i64 ((BitVec.ofInt 64 (sg8 (row.take i)) ||| BitVec.ofInt 64 (wrap64 (b * 2 ^ (8 * i)))).toNat : Nat) := rfl
  have e1 : BitVec.ofInt 64 (sg8 (row.take i)) = BitVec.ofInt 64 (t : Int) := ofInt_sg _ _ (by rw [sg8_mod, ht])
  have e2 : BitVec.ofInt 64 (wrap64 (b * 2 ^ (8 * i))) = BitVec.ofInt 64 ((z * 2 ^ (8 * i) : Nat) : Int) := ofInt_sg _ _ (by rw [wrap64_mod, hz, hq, Int.natCast_mul])
  have hsum : z * 2 ^ (8 * i) + t < 18446744073709551616 := by omega
  rw [e, e1, e2, or_bits htl hsum]
  have hu : un8 (row.take (i + 1)) = ((t + z * 2 ^ (8 * i) : Nat) : Int) := by
    rw [un8_up hb, ht, hz, hp]; simp
  have hs := sg8_or (row.take (i + 1))
  rw [hu] at hs
  have hT : t + z * 2 ^ (8 * i) < 18446744073709551616 := by omega
  clear hu hsum e e1 e2 htl hzm hz255 hz ht hl hle hq hp hbb hi
  generalize sg8 (row.take (i + 1)) = S at *
  generalize t + z * 2 ^ (8 * i) = T at *
  congr 1
  simp [IntKind.wrap, IntKind.signed, IntKind.bits]
  split <;> omega
set_option maxRecDepth 100000 in
set_option maxHeartbeats 1000000 in
theorem rbits_any {w : World} {r B n cap : Nat} {ba : Option Addr} {bs : List Int} {a : Nat} (h : RD w r B ba n cap bs a) :
    Calls Tryd.prog 66 #[.pointer (some ⟨r, 0, none⟩)] w fun e w' => Out r (r + 1) w w' ∧ ((∃ row c, takeR 8 bs a = .inr (row, c) ∧ e = .returned (.int .i64 (sg8 row)) ∧ RD w' r B ba n cap bs c) ∨ takeR 8 bs a = .inl (61, n) ∧ e = .panicked [stopP 61 n]) := by
  have HR := hid_mk h
  have hlen : Hid (bs.length = n) := h.2.2.1
  have hal : Hid (a ≤ n) := h.2.2.2.2.1
  clear h
  by_cases hj : a + 8 ≤ n
  · obtain ⟨row, hro⟩ : ∃ row, (bs.drop a).take 8 = row := ⟨_, rfl⟩
    have hrl : row.length = 8 := by rw [← hro, List.length_take, List.length_drop, hlen.out]; omega
    have HRow : Hid (takeR 8 bs a = .inr (row, a + 8)) := hid_mk (by rw [take_ok (by rw [hlen.out]; exact hj), hro])
    have HRl := hid_mk hrl
    have HT : Hid (Calls Tryd.prog 55 #[.pointer (some ⟨r, 0, none⟩), .int .i64 8] w fun e w' => ∃ A' C', e = .returned (.slice A' 8 C') ∧ ByIn w' B A' row ∧ RD w' r B ba n cap bs (a + 8) ∧ Out r (r + 1) w w') := hid_mk ((take_go HR.out 8 hj).mono fun e w' ⟨A', C', h1, _, h2, h3, h4⟩ => ⟨A', C', h1, hro ▸ h2, h3, h4⟩)
    clear hj hro hrl
    go_enter Tryd.func66, Tryd.ntmps66
    go_wp2_with (go_at_call 55; refine HT.out.mono ?_; rintro e w3 ⟨A', C', rfl, hin, hrd, ho3⟩)
    have HI := hid_mk hin
    have HRD := hid_mk hrd
    have HO := hid_mk ho3
    clear hin hrd ho3
    go_loopw [3, 9] (fun nv iv wr => ∃ i : Nat, iv = .int .i64 i ∧ i ≤ 8 ∧ nv = .int .i64 (sg8 (row.take i)) ∧ wr = w3) (fun _ iv _ => 8 - (intOf iv).toNat)
    case atStart => exact ⟨0, rfl, Nat.zero_le _, rfl, rfl⟩
    case round =>
      obtain ⟨i, rfl, hik, rfl, rfl⟩ := hrel
      by_cases hgo : i < 8
      · have g1 : (i : Int) < 8 := by omega
        obtain ⟨b, hb⟩ : ∃ b, row[i]? = some b := ⟨_, List.getElem?_eq_getElem (by have := HRl.out; omega)⟩
        have HX := hid_mk hb
        have HB0 := hid_mk (HI.out.1 b (List.mem_of_getElem? hb))
        rcases HI.out.2 with h0 | ⟨g, off, rfl, hg, hc⟩
        · rw [h0] at hb; cases hb
        have d0 := hc i b hb
        have b0 := HB0.out.1
        have b1 := HB0.out.2
        clear hb hc hg
        have HV := hid_mk (or8_val HI.out.1 HX.out hgo)
        go_wp2
        go_roundw
        case rel => exact ⟨i + 1, by go_num, by omega, HV.out, trivial⟩
        case measure => simp [intOf]; omega
      · have hiE : i = 8 := by omega
        clear hgo hik
        subst hiE
        have hT : row.take 8 = row := take_all HRl.out
        rw [hT]
        clear hT
        go_wp2
        go_ret
        exact ⟨HO.out, .inl ⟨row, _, HRow.out, rfl, HRD.out⟩⟩
  · have HT := hid_mk (take_end HR.out 8 (by omega))
    have HE : Hid (takeR 8 bs a = .inl (61, n)) := hid_mk (by rw [take_err (by rw [hlen.out]; omega) (by rw [hlen.out]; exact hal.out), hlen.out])
    clear hj
    go_enter Tryd.func66, Tryd.ntmps66
    go_wp2_with (go_at_call 55; refine HT.out.mono ?_; rintro e w3 ⟨rfl, ho3⟩)
    exact ⟨rfl, ho3.any _ _, .inr ⟨HE.out, rfl⟩⟩
theorem num_in {lo hi : Nat} {bs : List Int} {a v c : Nat} (h : numR lo hi bs a = .inr (v, c)) : lo ≤ v ∧ v ≤ hi := by
  rcases bnd_inv h with ⟨x, _, hx⟩ | ⟨row, e1, hr, hp⟩
  · cases hx
  cases hp
  rcases chk_inv hr with ⟨x, _, hx⟩ | ⟨row', e1', hr', hok, hx⟩ | ⟨row', e1', _, _, hx⟩
  · cases hx
  · cases hx; exact hok.2
  · cases hx
theorem zag_even {v : Nat} (hv : v ≤ 2305843009213693951) (h : v % 2 = 0) : wrap64 ((v : Int) / 2) = zag v := by unfold zag wrap64; rw [if_pos h]; omega
theorem zag_odd {v : Nat} (hv : v ≤ 2305843009213693951) (h : ¬ v % 2 = 0) : wrap64 (wrap64 (-wrap64 ((v : Int) / 2)) - 1) = zag v := by unfold zag wrap64; rw [if_neg h]; omega
set_option maxRecDepth 100000 in
theorem rsigned_any {w : World} {r B n cap : Nat} {ba : Option Addr} {bs : List Int} {a : Nat} (h : RD w r B ba n cap bs a) :
    Calls Tryd.prog 65 #[.pointer (some ⟨r, 0, none⟩)] w fun e w' => Out r (r + 1) w w' ∧ ((∃ v c, numR 0 2305843009213693951 bs a = .inr (v, c) ∧ e = .returned (.int .i64 (zag v)) ∧ RD w' r B ba n cap bs c) ∨ ∃ x q, numR 0 2305843009213693951 bs a = .inl (x, q) ∧ e = .panicked [stopP x (q : Int)]) := by
  have HN := hid_mk (rnum_any h 0 2305843009213693951)
  clear h
  go_enter Tryd.func65, Tryd.ntmps65
  go_wp2_with fail
  refine HN.out.mono ?_
  rintro e w2 ⟨ho, ⟨v, c, h1, rfl, hrd⟩ | ⟨x, q, h1, rfl⟩⟩
  · have H1 := hid_mk h1
    have HO := hid_mk ho
    have HRD := hid_mk hrd
    clear h1 ho hrd
    by_cases hv : v % 2 = 0
    · have e1 : ((v : Int) % 2 == 0) = true := by simp; omega
      have HV := hid_mk (zag_even (num_in H1.out).2 hv)
      clear hv
      go_wp2
      go_ret
      exact ⟨HO.out, .inl ⟨v, c, H1.out, ret_int HV.out, HRD.out⟩⟩
    · have e1 : ((v : Int) % 2 == 0) = false := by simp; omega
      have HV := hid_mk (zag_odd (num_in H1.out).2 hv)
      clear hv
      go_wp2
      go_ret
      exact ⟨HO.out, .inl ⟨v, c, H1.out, ret_int HV.out, HRD.out⟩⟩
  · exact ⟨rfl, ho, .inr ⟨x, q, h1, rfl⟩⟩
end Go.Proofs.YtapjfokkcgdhhaaDoor
namespace Go.Proofs.YtapjfokkcgdhhaaDoor
open Go.RowKit
set_option linter.unusedVariables false
set_option linter.unusedSimpArgs false

theorem infoI (x y : Int) : (Tryd.prog.info? 61).map (·.size) = some (#[Value.int .i64 x, Value.int .i64 y] : Array Value).size := by kernel_rfl
theorem load_ins {w : World} {g : Nat} {x y : Int} (hg : Bl w g #[.int .i64 x, .int .i64 y] 61) : (loadVar 61 ⟨g, 0, none⟩).run Tryd.prog w = .ok (.agg #[.int .i64 x, .int .i64 y]) w :=
  run_loadVar_row w g 61 61 _ (0, 0) _ hg Tryd.underlying61 rfl (infoI x y)
/-- a result that lies in a cell -/
theorem ret_cell {fn : Func} {p : Tmp} {T : TypeId} {a : Act} {w : World} {A : Addr} {v : Value} {post : Ending → World → Prop} (hr : fn.results = #[.cell p T]) (hp : a.tmps.getD p undef = .pointer (some A))
    (hd : a.defers = []) (hl : (loadVar T A).run Tryd.prog w = .ok v w) (h : post (.returned v) w) : bodyPost Tryd.prog fn post Exit.ret a w := by
  refine bodyPost_ret (v := v) ?_ hd h
  have hp' : a.tmps[p]?.getD undef = .pointer (some A) := by simpa using hp
  simp only [results, hr]
  simp [Sem.run_bind, hp', asAddr, hl, Result.andThen]
theorem take_one {bs : List Int} {a : Nat} {b : Int} (h : bs[a]? = some b) : (bs.drop a).take 1 = [b] := by
  have hl := (List.getElem?_eq_some_iff.1 h).1
  have he := (List.getElem?_eq_some_iff.1 h).2
  rw [List.drop_eq_getElem_cons hl, he]; rfl
theorem op_ok {bs : List Int} {a : Nat} {b : Int} (h : bs[a]? = some b) (ho : opS b ≠ 0) : opR bs a = .inr (b, a + 1) := by
  have hl := (List.getElem?_eq_some_iff.1 h).1
  have h0 : takeR 1 bs a = .inr ([b], a + 1) := by rw [take_ok (by omega), take_one h]
  have h1 : chkR (takeR 1) (fun l => opS (l.headD 0) ≠ 0) bs a = .inr ([b], a + 1) := chk_ok h0 ho
  unfold opR
  exact (bnd_ok h1).trans rfl
theorem op_no {bs : List Int} {a : Nat} {b : Int} (h : bs[a]? = some b) (ho : opS b = 0) : insR bs a = .inl (60, a) := by
  have hl := (List.getElem?_eq_some_iff.1 h).1
  have h0 : takeR 1 bs a = .inr ([b], a + 1) := by rw [take_ok (by omega), take_one h]
  have h1 : chkR (takeR 1) (fun l => opS (l.headD 0) ≠ 0) bs a = .inl (60, a) := chk_no h0 (fun q => q ho)
  unfold insR opR
  exact bnd_err (bnd_err h1)
theorem op_end {bs : List Int} {a : Nat} (h : bs.length = a) : insR bs a = .inl (61, a) := by
  have h0 : takeR 1 bs a = .inl (61, a) := by rw [take_err (by omega) (by omega), h]
  have h1 : chkR (takeR 1) (fun l => opS (l.headD 0) ≠ 0) bs a = .inl (61, a) := chk_err h0
  unfold insR opR
  exact bnd_err (bnd_err h1)
set_option maxRecDepth 100000 in
set_option maxHeartbeats 2000000 in
theorem rins_any {w : World} {r B n cap : Nat} {ba : Option Addr} {bs : List Int} {a : Nat} (h : RD w r B ba n cap bs a) :
    Calls Tryd.prog 64 #[.pointer (some ⟨r, 0, none⟩)] w fun e w' => Out r (r + 1) w w' ∧ ((∃ x c, insR bs a = .inr (x, c) ∧ e = .returned (.agg #[.int .i64 x.1, .int .i64 x.2]) ∧ RD w' r B ba n cap bs c) ∨ ∃ x q, insR bs a = .inl (x, q) ∧ e = .panicked [stopP x (q : Int)]) := by
  have HR := hid_mk (h.alloc (.cells #[.int .i64 0, .int .i64 0] 61))
  have c1 := HR.out.1.cell (i := 1) rfl
  have hlen : Hid (bs.length = n) := h.2.2.1
  have hal : Hid (a ≤ n) := h.2.2.2.2.1
  have hrl : Hid (r < w.heap.size) := h.lt
  have HG := hid_mk (Bl.new w #[.int .i64 0, .int .i64 0] 61)
  have HO0 := hid_mk ((Out.refl r (r + 1) w).alloc (.cells #[.int .i64 0, .int .i64 0] 61))
  clear h
  by_cases hj : a + 1 ≤ n
  · obtain ⟨b, hb⟩ : ∃ b, bs[a]? = some b := ⟨_, List.getElem?_eq_getElem (by have := hlen.out; omega)⟩
    have HX := hid_mk hb
    have HT : Hid (Calls Tryd.prog 55 #[.pointer (some ⟨r, 0, none⟩), .int .i64 1] (w.alloc (.cells #[.int .i64 0, .int .i64 0] 61)) fun e w' => ∃ g off C', e = .returned (.slice (some ⟨g, off, none⟩) 1 C') ∧ w'.cell? ⟨g, off, none⟩ = some (.int .u8 b) ∧ (0 ≤ b ∧ b ≤ 255) ∧ RD w' r B ba n cap bs (a + 1) ∧ Out r (r + 1) w w' ∧ Bl w' w.heap.size #[.int .i64 0, .int .i64 0] 61) := hid_mk ((take_go HR.out 1 hj).mono fun e w' ⟨A', C', h1, _, h2, h3, h4⟩ => by
      rw [take_one HX.out] at h2
      obtain ⟨q1, q2⟩ := h2
      rcases q2 with q2 | ⟨g, off, rfl, _, q3⟩
      · cases q2
      · exact ⟨g, off, C', h1, by have := q3 0 b rfl; exact this, q1 b (by simp), h3, HO0.out.trans h4, HG.out.kept h4 (by have := hrl.out; omega)⟩)
    have hle := opS_le b
    have hcase : opS b = 0 ∨ opS b = 1 ∨ opS b = 2 ∨ opS b = 3 ∨ opS b = 4 := by omega
    have HF : Hid (∀ w2 w3 : World, Out r (r + 1) w w2 → Bl w2 w.heap.size #[.int .i64 0, .int .i64 0] 61 → Out r (r + 1) w2 w3 → Out r (r + 1) w w3 ∧ Bl w3 w.heap.size #[.int .i64 0, .int .i64 0] 61) := hid_mk fun w2 w3 o2 b2 o3 => ⟨o2.trans o3, b2.kept o3 (by have := hrl.out; omega)⟩
    have HE : Hid (∀ (w2 : World) (u v : Int) (c : Nat), Out r (r + 1) w w2 → Bl w2 w.heap.size #[.int .i64 0, .int .i64 0] 61 → RD w2 r B ba n cap bs c → Out r (r + 1) w ((w2.setCell ⟨w.heap.size, 0, none⟩ (.int .i64 u)).setCell ⟨w.heap.size, 1, none⟩ (.int .i64 v)) ∧ Bl ((w2.setCell ⟨w.heap.size, 0, none⟩ (.int .i64 u)).setCell ⟨w.heap.size, 1, none⟩ (.int .i64 v)) w.heap.size #[.int .i64 u, .int .i64 v] 61 ∧ RD ((w2.setCell ⟨w.heap.size, 0, none⟩ (.int .i64 u)).setCell ⟨w.heap.size, 1, none⟩ (.int .i64 v)) r B ba n cap bs c) := hid_mk fun w2 u v c o2 b2 hr => ⟨(o2.setCell (.inr (Nat.le_refl _)) _).setCell (.inr (Nat.le_refl _)) _, (b2.set 0 _).set 1 _, hr.off (((Out.refl w.heap.size (w.heap.size + 1) w2).setCell (p := ⟨w.heap.size, 0, none⟩) (.inl ⟨Nat.le_refl _, Nat.lt_succ_self _⟩) _).setCell (p := ⟨w.heap.size, 1, none⟩) (.inl ⟨Nat.le_refl _, Nat.lt_succ_self _⟩) _) hrl.out⟩
    clear hb hj hle
    rcases hcase with hs | hs | hs | hs | hs
    · go_enter Tryd.func64, Tryd.ntmps64
      go_wp2_with (first
        | (go_at_call 55; refine HT.out.mono ?_; rintro e w2 ⟨g, off, C', rfl, d0, ⟨b0, b1⟩, hrd, ho2, hg2⟩; have y0 := hg2.cell (i := 0) rfl; have y1 := hg2.cell (i := 1) rfl; have z0 := hg2.frozen 0; have z1 := hg2.frozen 1)
        | (go_at_call 60; refine calls_same (operandOf_at hs _) ?_)
        | (go_at_call 26; refine want_any _ _ _ ?_ ?_ <;> intro hh <;> first | (exact absurd hh (by decide)) | clear hh))
      exact ⟨rfl, ho2, .inr ⟨60, a, op_no HX.out hs, rfl⟩⟩
    · have H1 : Hid (insR bs a = .inr ((b, 0), a + 1)) := hid_mk (by unfold insR; rw [bnd_ok (op_ok HX.out (by omega))]; unfold argR; rw [if_neg (by omega), if_neg (by omega), if_neg (by omega)]; rfl)
      go_enter Tryd.func64, Tryd.ntmps64
      go_wp2_with (first
        | (go_at_call 55; refine HT.out.mono ?_; rintro e w2 ⟨g, off, C', rfl, d0, ⟨b0, b1⟩, hrd, ho2, hg2⟩; have y0 := hg2.cell (i := 0) rfl; have y1 := hg2.cell (i := 1) rfl; have z0 := hg2.frozen 0; have z1 := hg2.frozen 1)
        | (go_at_call 60; refine calls_same (operandOf_at hs _) ?_)
        | (go_at_call 26; refine want_any _ _ _ ?_ ?_ <;> intro hh <;> first | (exact absurd hh (by decide)) | clear hh))
      obtain ⟨f1, f2, f3⟩ := HE.out _ b 0 _ ho2 hg2 hrd
      exact ret_cell Tryd.results64 rfl rfl (load_ins f2) ⟨f1, .inl ⟨(b, 0), _, H1.out, rfl, f3⟩⟩
    · have H0 : Hid (insR bs a = bndR (numR 0 2097151) (fun v => pureR (b, (v : Int))) bs (a + 1)) := hid_mk (by unfold insR; rw [bnd_ok (op_ok HX.out (by omega))]; unfold argR; rw [if_pos (by omega)])
      go_enter Tryd.func64, Tryd.ntmps64
      go_wp2_with (first
        | (go_at_call 55; refine HT.out.mono ?_; rintro e w2 ⟨g, off, C', rfl, d0, ⟨b0, b1⟩, hrd, ho2, hg2⟩; have y0 := hg2.cell (i := 0) rfl; have y1 := hg2.cell (i := 1) rfl; have z0 := hg2.frozen 0; have z1 := hg2.frozen 1)
        | (go_at_call 60; refine calls_same (operandOf_at hs _) ?_)
        | (go_at_call 26; refine want_any _ _ _ ?_ ?_ <;> intro hh <;> first | (exact absurd hh (by decide)) | clear hh))
      refine (rnum_any hrd 0 2097151).mono ?_
      rintro e w3 ⟨ho3, ⟨v, c, h1, rfl, hrd3⟩ | ⟨x, q, h1, rfl⟩⟩
      · obtain ⟨ho4, hg4⟩ := HF.out _ _ ho2 hg2 ho3
        have y4 := hg4.cell (i := 0) rfl; have y5 := hg4.cell (i := 1) rfl; have z4 := hg4.frozen 0; have z5 := hg4.frozen 1
        go_wp2
        obtain ⟨f1, f2, f3⟩ := HE.out _ b (v : Int) _ ho4 hg4 hrd3
        exact ret_cell Tryd.results64 rfl rfl (load_ins f2) ⟨f1, .inl ⟨(b, (v : Int)), _, by rw [H0.out, bnd_ok h1]; rfl, rfl, f3⟩⟩
      · exact ⟨rfl, ho2.trans ho3, .inr ⟨x, q, by rw [H0.out, bnd_err h1], rfl⟩⟩
    · have H0 : Hid (insR bs a = bndR (numR 0 2305843009213693951) (fun v => pureR (b, zag v)) bs (a + 1)) := hid_mk (by unfold insR; rw [bnd_ok (op_ok HX.out (by omega))]; unfold argR; rw [if_neg (by omega), if_pos (by omega)])
      go_enter Tryd.func64, Tryd.ntmps64
      go_wp2_with (first
        | (go_at_call 55; refine HT.out.mono ?_; rintro e w2 ⟨g, off, C', rfl, d0, ⟨b0, b1⟩, hrd, ho2, hg2⟩; have y0 := hg2.cell (i := 0) rfl; have y1 := hg2.cell (i := 1) rfl; have z0 := hg2.frozen 0; have z1 := hg2.frozen 1)
        | (go_at_call 60; refine calls_same (operandOf_at hs _) ?_)
        | (go_at_call 26; refine want_any _ _ _ ?_ ?_ <;> intro hh <;> first | (exact absurd hh (by decide)) | clear hh))
      refine (rsigned_any hrd).mono ?_
      rintro e w3 ⟨ho3, ⟨v, c, h1, rfl, hrd3⟩ | ⟨x, q, h1, rfl⟩⟩
      · obtain ⟨ho4, hg4⟩ := HF.out _ _ ho2 hg2 ho3
        have y4 := hg4.cell (i := 0) rfl; have y5 := hg4.cell (i := 1) rfl; have z4 := hg4.frozen 0; have z5 := hg4.frozen 1
        go_wp2
        obtain ⟨f1, f2, f3⟩ := HE.out _ b (zag v) _ ho4 hg4 hrd3
        exact ret_cell Tryd.results64 rfl rfl (load_ins f2) ⟨f1, .inl ⟨(b, zag v), _, by rw [H0.out, bnd_ok h1]; rfl, rfl, f3⟩⟩
      · exact ⟨rfl, ho2.trans ho3, .inr ⟨x, q, by rw [H0.out, bnd_err h1], rfl⟩⟩
    · have H0 : Hid (insR bs a = bndR (takeR 8) (fun l => pureR (b, sg8 l)) bs (a + 1)) := hid_mk (by unfold insR; rw [bnd_ok (op_ok HX.out (by omega))]; unfold argR; rw [if_neg (by omega), if_neg (by omega), if_pos (by omega)])
      go_enter Tryd.func64, Tryd.ntmps64
      go_wp2_with (first
        | (go_at_call 55; refine HT.out.mono ?_; rintro e w2 ⟨g, off, C', rfl, d0, ⟨b0, b1⟩, hrd, ho2, hg2⟩; have y0 := hg2.cell (i := 0) rfl; have y1 := hg2.cell (i := 1) rfl; have z0 := hg2.frozen 0; have z1 := hg2.frozen 1)
        | (go_at_call 60; refine calls_same (operandOf_at hs _) ?_)
        | (go_at_call 26; refine want_any _ _ _ ?_ ?_ <;> intro hh <;> first | (exact absurd hh (by decide)) | clear hh))
      refine (rbits_any hrd).mono ?_
      rintro e w3 ⟨ho3, ⟨v, c, h1, rfl, hrd3⟩ | ⟨h1, rfl⟩⟩
      · obtain ⟨ho4, hg4⟩ := HF.out _ _ ho2 hg2 ho3
        have y4 := hg4.cell (i := 0) rfl; have y5 := hg4.cell (i := 1) rfl; have z4 := hg4.frozen 0; have z5 := hg4.frozen 1
        go_wp2
        obtain ⟨f1, f2, f3⟩ := HE.out _ b (sg8 v) _ ho4 hg4 hrd3
        exact ret_cell Tryd.results64 rfl rfl (load_ins f2) ⟨f1, .inl ⟨(b, sg8 v), _, by rw [H0.out, bnd_ok h1]; rfl, rfl, f3⟩⟩
      · exact ⟨rfl, ho2.trans ho3, .inr ⟨61, n, by rw [H0.out, bnd_err h1], rfl⟩⟩
  · have hae : a = n := by have := hal.out; omega
    have HT := hid_mk (take_end HR.out 1 (by omega))
    have HE := hid_mk (op_end (bs := bs) (a := a) (by rw [hlen.out, hae]))
    have HA := hid_mk hae
    clear hj hae
    go_enter Tryd.func64, Tryd.ntmps64
    go_wp2_with (go_at_call 55; refine HT.out.mono ?_; rintro e w3 ⟨rfl, ho3⟩)
    exact ⟨rfl, HO0.out.trans (ho3.any _ _), .inr ⟨61, a, HE.out, by rw [HA.out]⟩⟩
end Go.Proofs.YtapjfokkcgdhhaaDoor
namespace Go.Proofs.YtapjfokkcgdhhaaDoor
open Go.RowKit
set_option linter.unusedVariables false
set_option linter.unusedSimpArgs false

set_option maxRecDepth 100000 in
theorem clone_any {w : World} {B n C : Nat} {A : Option Addr} {t : List Int} (h : ByIn w B A t) (hn : t.length = n) (hn2 : n ≤ 1000000) (hA : A = none → n = 0) :
    Calls Tryd.prog 54 #[.slice A n C] w fun e w' => ∃ A' C', e = .returned (.slice A' n C') ∧ w'.ownsRow w.heap.size 5 1 (.slice A' n C') n (bvs t) ∧ Out 0 0 w w' := by
  cases A with
  | none =>
    have h0 := hA rfl
    subst h0
    have ht : t = [] := List.eq_nil_of_length_eq_zero hn
    subst ht
    have hq : ∀ W, (binOp .eql 22 (.slice none 0 C) (.slice none 0 0)).run Tryd.prog W = .ok (.bool true) W := fun W => by kernel_rfl
    clear h hn hn2 hA
    go_enter Tryd.func54, Tryd.ntmps54
    go_wp2
    go_ret
    exact ⟨none, 0, rfl, World.ownsRow_nil _ _ _ 1, Out.refl _ _ _⟩
  | some ad =>
    have HX := hid_mk (h.kept (Lo.of_out ((Out.refl 0 0 w).alloc (.cells #[] 5))) (Nat.le_refl _)).bytes
    have HN := hid_mk (And.intro hn hn2)
    have HO : Hid ((w.alloc (.cells #[] 5)).ownsRow w.heap.size 5 1 (.slice (some ⟨w.heap.size, 0, none⟩) 0 0) 0 (bvs [])) := hid_mk ⟨rfl, .inr ⟨w.heap.size, 0, #[], rfl, Nat.le_refl _, Bl.new w #[] _, Nat.le_refl _, by decide, rfl, rfl⟩⟩
    have hq : ∀ W, (binOp .eql 22 (.slice (some ad) n C) (.slice none 0 0)).run Tryd.prog W = .ok (.bool false) W := fun W => by kernel_rfl
    clear h hn hn2 hA
    go_enter Tryd.func54, Tryd.ntmps54
    go_wp2_with (at_builtin; refine app_step rfl _ _ rfl rfl rfl HO.out (by simp) HX.out HN.out.1 (by omega) HN.out.2 ?_)
    intro a' cap' w' q1 q2 q3
    (try rw [Nat.zero_add, List.nil_append] at q1)
    (try rw [Nat.zero_add])
    have H1 := hid_mk q1
    have H2 := hid_mk q2
    clear q1 q2 q3
    go_wp2
    go_ret
    refine ⟨a', cap', rfl, H1.out, ?_⟩
    have o1 : Out 0 0 w (w.alloc (.cells #[] 5)) := (Out.refl 0 0 w).alloc _
    exact ⟨H2.out.1.trans o1.1, H2.out.2.1.trans o1.2.1, H2.out.2.2.1.trans o1.2.2.1, Nat.le_trans o1.size H2.out.size, fun k h1 h2 => (H2.out.2.2.2.2 k (by rw [size_alloc]; omega) (by intro q; cases q; exact Nat.lt_irrefl _ h1)).trans (o1.block h1 h2)⟩
theorem mag_ok {bs l : List Int} {a : Nat} {b : Int} (h : bs[a]? = some b) : magR (b :: l) bs a = magR l bs (a + 1) := by
  have hl := (List.getElem?_eq_some_iff.1 h).1
  have h0 : takeR 1 bs a = .inr ([b], a + 1) := by rw [take_ok (by omega), take_one h]
  have h1 : chkR (takeR 1) (· = [b]) bs a = .inr ([b], a + 1) := chk_ok h0 rfl
  exact bnd_ok h1
theorem mag_no {bs l : List Int} {a : Nat} {b c : Int} (h : bs[a]? = some b) (hc : b ≠ c) : magR (c :: l) bs a = .inl (60, a) := by
  have hl := (List.getElem?_eq_some_iff.1 h).1
  have h0 : takeR 1 bs a = .inr ([b], a + 1) := by rw [take_ok (by omega), take_one h]
  have h1 : chkR (takeR 1) (· = [c]) bs a = .inl (60, a) := chk_no h0 (by intro q; cases q; exact hc rfl)
  exact bnd_err h1
theorem mag_end {bs l : List Int} {a : Nat} {c : Int} (h : bs.length = a) : magR (c :: l) bs a = .inl (61, a) := by
  have h0 : takeR 1 bs a = .inl (61, a) := by rw [take_err (by omega) (by omega), h]
  have h1 : chkR (takeR 1) (· = [c]) bs a = .inl (61, a) := chk_err h0
  exact bnd_err h1
set_option maxRecDepth 100000 in
set_option maxHeartbeats 2000000 in
theorem rmagic_any {w : World} {r B n cap : Nat} {ba : Option Addr} {bs : List Int} {a : Nat} (h : RD w r B ba n cap bs a) :
    Calls Tryd.prog 52 #[.pointer (some ⟨r, 0, none⟩)] w fun e w' => Out r (r + 1) w w' ∧ ((∃ c, magR [104, 116, 104, 1] bs a = .inr ((), c) ∧ e = .returned (.tuple #[]) ∧ RD w' r B ba n cap bs c) ∨ ∃ x q, magR [104, 116, 104, 1] bs a = .inl (x, q) ∧ e = .panicked [stopP x (q : Int)]) := by
  have HR := hid_mk h
  have hlen : Hid (bs.length = n) := h.2.2.1
  clear h
  go_enter Tryd.func52, Tryd.ntmps52
  go_wp2
  go_loopw [4] (fun x wr => ∃ i : Nat, x = .int .i64 i ∧ i ≤ 4 ∧ magR [104, 116, 104, 1] bs a = magR (([104, 116, 104, 1] : List Int).drop i) bs (a + i) ∧ RD wr r B ba n cap bs (a + i) ∧ Out r (r + 1) w wr) (fun x _ => 4 - (intOf x).toNat)
  case atStart => exact ⟨0, rfl, Nat.zero_le _, rfl, HR.out, Out.refl _ _ _⟩
  case round =>
    obtain ⟨i, rfl, hi, hm, hrd, ho⟩ := hrel
    have HM := hid_mk hm
    have HRD := hid_mk hrd
    have HO := hid_mk ho
    have c1 := hrd.1.cell (i := 1) rfl
    have hal : Hid (a + i ≤ n) := hid_mk hrd.2.2.2.2.1
    clear hm hrd ho
    by_cases hgo : i < 4
    · have hcase : i = 0 ∨ i = 1 ∨ i = 2 ∨ i = 3 := by omega
      clear hi hgo
      rcases hcase with rfl | rfl | rfl | rfl
      · obtain ⟨l, hl⟩ : ∃ l, ([104, 116, 104, 1] : List Int).drop 0 = 104 :: l := ⟨_, rfl⟩
        have hE : ∀ h, (((⟨#[104, 116, 104, 1]⟩ : ByteArray)[0]'h).toNat : Nat) = 104 := fun _ => rfl
        rw [hl] at HM
        have HL := hid_mk hl
        have hl2 : Hid (([104, 116, 104, 1] : List Int).drop (0 + 1) = l) := hid_mk (by have := congrArg List.tail hl; simpa using this)
        clear hl
        go_wp2
        refine wp_region_held_drew (S := fun _ => True) (by kernel_rfl) trivial (fun hHeld => ?_)
        refine tk 0 ?_
        refine tk 4 ?_
        refine tk 5 ?_
        refine tk 7 ?_
        refine wpAnyH_ready (rs := [1]) (by kernel_rfl) (by simp) ?_
        refine AllReadyH.cons rfl (fun KK hK => ?_) AllReadyH.nil
        simp only [xa, xb, xc]
        go_simp
        have HRZ := hid_mk (HRD.out.out ((Out.refl 0 0 wr).drew))
        by_cases hj : a + 0 + 1 ≤ n
        · obtain ⟨b, hb⟩ : ∃ b, bs[a + 0]? = some b := ⟨_, List.getElem?_eq_getElem (by have := hlen.out; omega)⟩
          refine (take_go HRZ.out 1 hj).mono ?_
          rintro e w3 ⟨A', C', rfl, _, h2, h3, h4⟩
          rw [take_one hb] at h2
          obtain ⟨q1, q2⟩ := h2
          rcases q2 with q2 | ⟨g, off, rfl, _, q3⟩
          · cases q2
          have d0 : w3.cell? ⟨g, off, none⟩ = some (.int .u8 b) := q3 0 b rfl
          have HO3 := hid_mk (HO.out.trans (((Out.refl r (r + 1) wr).drew).trans h4))
          have HR3 := hid_mk h3
          have HB := hid_mk hb
          clear q3 h3 h4 hb q1
          refine hK.out _ _ trivial (fun _ => ?_)
          refine tk 2 ?_
          refine wpAnyH_ready (rs := [3]) (by kernel_rfl) (by simp) ?_
          refine AllReadyH.cons rfl (fun KK hK => ?_) AllReadyH.nil
          simp only [xa, xb, xc]
          go_simp
          refine hK.out _ _ trivial (fun _ => ?_)
          refine tk 6 ?_
          refine wpAnyH_ready (rs := [8]) (by kernel_rfl) (by simp) ?_
          refine AllReadyH.cons rfl (fun KK hK => ?_) AllReadyH.nil
          simp only [xa, xb, xc]
          go_simp
          refine want_any _ _ _ ?_ ?_
          · intro hh
            have hbc : b = 104 := by simpa [hE] using hh
            subst hbc
            refine hK.out _ _ trivial (fun _ => ?_)
            refine wpAnyH_done (by kernel_rfl) ?_ _
            go_wp2
            go_roundw
            case rel => exact ⟨0 + 1, by first | rfl | go_num, by omega, by rw [HM.out, mag_ok HB.out, hl2.out, Nat.add_assoc], by have := HR3.out; rwa [Nat.add_assoc] at this, HO3.out⟩
            case measure => first | decide | (simp [intOf])
          · intro hh
            have hbc : b ≠ 104 := by simpa [hE] using hh
            exact ⟨rfl, HO3.out, .inr ⟨60, a + 0, by rw [HM.out, mag_no HB.out hbc], rfl⟩⟩
        · refine (take_end HRZ.out 1 (by omega)).mono ?_
          rintro e w3 ⟨rfl, ho3⟩
          have hae : a + 0 = n := by have := hal.out; omega
          exact ⟨rfl, HO.out.trans (((Out.refl r (r + 1) wr).drew).trans (ho3.any _ _)), .inr ⟨61, n, by rw [HM.out, mag_end (by rw [hlen.out, hae]), hae], rfl⟩⟩
      · obtain ⟨l, hl⟩ : ∃ l, ([104, 116, 104, 1] : List Int).drop 1 = 116 :: l := ⟨_, rfl⟩
        have hE : ∀ h, (((⟨#[104, 116, 104, 1]⟩ : ByteArray)[1]'h).toNat : Nat) = 116 := fun _ => rfl
        rw [hl] at HM
        have HL := hid_mk hl
        have hl2 : Hid (([104, 116, 104, 1] : List Int).drop (1 + 1) = l) := hid_mk (by have := congrArg List.tail hl; simpa using this)
        clear hl
        go_wp2
        refine wp_region_held_drew (S := fun _ => True) (by kernel_rfl) trivial (fun hHeld => ?_)
        refine tk 0 ?_
        refine tk 4 ?_
        refine tk 5 ?_
        refine tk 7 ?_
        refine wpAnyH_ready (rs := [1]) (by kernel_rfl) (by simp) ?_
        refine AllReadyH.cons rfl (fun KK hK => ?_) AllReadyH.nil
        simp only [xa, xb, xc]
        go_simp
        have HRZ := hid_mk (HRD.out.out ((Out.refl 0 0 wr).drew))
        by_cases hj : a + 1 + 1 ≤ n
        · obtain ⟨b, hb⟩ : ∃ b, bs[a + 1]? = some b := ⟨_, List.getElem?_eq_getElem (by have := hlen.out; omega)⟩
          refine (take_go HRZ.out 1 hj).mono ?_
          rintro e w3 ⟨A', C', rfl, _, h2, h3, h4⟩
          rw [take_one hb] at h2
          obtain ⟨q1, q2⟩ := h2
          rcases q2 with q2 | ⟨g, off, rfl, _, q3⟩
          · cases q2
          have d0 : w3.cell? ⟨g, off, none⟩ = some (.int .u8 b) := q3 0 b rfl
          have HO3 := hid_mk (HO.out.trans (((Out.refl r (r + 1) wr).drew).trans h4))
          have HR3 := hid_mk h3
          have HB := hid_mk hb
          clear q3 h3 h4 hb q1
          refine hK.out _ _ trivial (fun _ => ?_)
          refine tk 2 ?_
          refine wpAnyH_ready (rs := [3]) (by kernel_rfl) (by simp) ?_
          refine AllReadyH.cons rfl (fun KK hK => ?_) AllReadyH.nil
          simp only [xa, xb, xc]
          go_simp
          refine hK.out _ _ trivial (fun _ => ?_)
          refine tk 6 ?_
          refine wpAnyH_ready (rs := [8]) (by kernel_rfl) (by simp) ?_
          refine AllReadyH.cons rfl (fun KK hK => ?_) AllReadyH.nil
          simp only [xa, xb, xc]
          go_simp
          refine want_any _ _ _ ?_ ?_
          · intro hh
            have hbc : b = 116 := by simpa [hE] using hh
            subst hbc
            refine hK.out _ _ trivial (fun _ => ?_)
            refine wpAnyH_done (by kernel_rfl) ?_ _
            go_wp2
            go_roundw
            case rel => exact ⟨1 + 1, by first | rfl | go_num, by omega, by rw [HM.out, mag_ok HB.out, hl2.out, Nat.add_assoc], by have := HR3.out; rwa [Nat.add_assoc] at this, HO3.out⟩
            case measure => first | decide | (simp [intOf])
          · intro hh
            have hbc : b ≠ 116 := by simpa [hE] using hh
            exact ⟨rfl, HO3.out, .inr ⟨60, a + 1, by rw [HM.out, mag_no HB.out hbc], rfl⟩⟩
        · refine (take_end HRZ.out 1 (by omega)).mono ?_
          rintro e w3 ⟨rfl, ho3⟩
          have hae : a + 1 = n := by have := hal.out; omega
          exact ⟨rfl, HO.out.trans (((Out.refl r (r + 1) wr).drew).trans (ho3.any _ _)), .inr ⟨61, n, by rw [HM.out, mag_end (by rw [hlen.out, hae]), hae], rfl⟩⟩
      · obtain ⟨l, hl⟩ : ∃ l, ([104, 116, 104, 1] : List Int).drop 2 = 104 :: l := ⟨_, rfl⟩
        have hE : ∀ h, (((⟨#[104, 116, 104, 1]⟩ : ByteArray)[2]'h).toNat : Nat) = 104 := fun _ => rfl
        rw [hl] at HM
        have HL := hid_mk hl
        have hl2 : Hid (([104, 116, 104, 1] : List Int).drop (2 + 1) = l) := hid_mk (by have := congrArg List.tail hl; simpa using this)
        clear hl
        go_wp2
        refine wp_region_held_drew (S := fun _ => True) (by kernel_rfl) trivial (fun hHeld => ?_)
        refine tk 0 ?_
        refine tk 4 ?_
        refine tk 5 ?_
        refine tk 7 ?_
        refine wpAnyH_ready (rs := [1]) (by kernel_rfl) (by simp) ?_
        refine AllReadyH.cons rfl (fun KK hK => ?_) AllReadyH.nil
        simp only [xa, xb, xc]
        go_simp
        have HRZ := hid_mk (HRD.out.out ((Out.refl 0 0 wr).drew))
        by_cases hj : a + 2 + 1 ≤ n
        · obtain ⟨b, hb⟩ : ∃ b, bs[a + 2]? = some b := ⟨_, List.getElem?_eq_getElem (by have := hlen.out; omega)⟩
          refine (take_go HRZ.out 1 hj).mono ?_
          rintro e w3 ⟨A', C', rfl, _, h2, h3, h4⟩
          rw [take_one hb] at h2
          obtain ⟨q1, q2⟩ := h2
          rcases q2 with q2 | ⟨g, off, rfl, _, q3⟩
          · cases q2
          have d0 : w3.cell? ⟨g, off, none⟩ = some (.int .u8 b) := q3 0 b rfl
          have HO3 := hid_mk (HO.out.trans (((Out.refl r (r + 1) wr).drew).trans h4))
          have HR3 := hid_mk h3
          have HB := hid_mk hb
          clear q3 h3 h4 hb q1
          refine hK.out _ _ trivial (fun _ => ?_)
          refine tk 2 ?_
          refine wpAnyH_ready (rs := [3]) (by kernel_rfl) (by simp) ?_
          refine AllReadyH.cons rfl (fun KK hK => ?_) AllReadyH.nil
          simp only [xa, xb, xc]
          go_simp
          refine hK.out _ _ trivial (fun _ => ?_)
          refine tk 6 ?_
          refine wpAnyH_ready (rs := [8]) (by kernel_rfl) (by simp) ?_
          refine AllReadyH.cons rfl (fun KK hK => ?_) AllReadyH.nil
          simp only [xa, xb, xc]
          go_simp
          refine want_any _ _ _ ?_ ?_
          · intro hh
            have hbc : b = 104 := by simpa [hE] using hh
            subst hbc
            refine hK.out _ _ trivial (fun _ => ?_)
            refine wpAnyH_done (by kernel_rfl) ?_ _
            go_wp2
            go_roundw
            case rel => exact ⟨2 + 1, by first | rfl | go_num, by omega, by rw [HM.out, mag_ok HB.out, hl2.out, Nat.add_assoc], by have := HR3.out; rwa [Nat.add_assoc] at this, HO3.out⟩
            case measure => first | decide | (simp [intOf])
          · intro hh
            have hbc : b ≠ 104 := by simpa [hE] using hh
            exact ⟨rfl, HO3.out, .inr ⟨60, a + 2, by rw [HM.out, mag_no HB.out hbc], rfl⟩⟩
        · refine (take_end HRZ.out 1 (by omega)).mono ?_
          rintro e w3 ⟨rfl, ho3⟩
          have hae : a + 2 = n := by have := hal.out; omega
          exact ⟨rfl, HO.out.trans (((Out.refl r (r + 1) wr).drew).trans (ho3.any _ _)), .inr ⟨61, n, by rw [HM.out, mag_end (by rw [hlen.out, hae]), hae], rfl⟩⟩
      · obtain ⟨l, hl⟩ : ∃ l, ([104, 116, 104, 1] : List Int).drop 3 = 1 :: l := ⟨_, rfl⟩
        have hE : ∀ h, (((⟨#[104, 116, 104, 1]⟩ : ByteArray)[3]'h).toNat : Nat) = 1 := fun _ => rfl
        rw [hl] at HM
        have HL := hid_mk hl
        have hl2 : Hid (([104, 116, 104, 1] : List Int).drop (3 + 1) = l) := hid_mk (by have := congrArg List.tail hl; simpa using this)
        clear hl
        go_wp2
        refine wp_region_held_drew (S := fun _ => True) (by kernel_rfl) trivial (fun hHeld => ?_)
        refine tk 0 ?_
        refine tk 4 ?_
        refine tk 5 ?_
        refine tk 7 ?_
        refine wpAnyH_ready (rs := [1]) (by kernel_rfl) (by simp) ?_
        refine AllReadyH.cons rfl (fun KK hK => ?_) AllReadyH.nil
        simp only [xa, xb, xc]
        go_simp
        have HRZ := hid_mk (HRD.out.out ((Out.refl 0 0 wr).drew))
        by_cases hj : a + 3 + 1 ≤ n
        · obtain ⟨b, hb⟩ : ∃ b, bs[a + 3]? = some b := ⟨_, List.getElem?_eq_getElem (by have := hlen.out; omega)⟩
          refine (take_go HRZ.out 1 hj).mono ?_
          rintro e w3 ⟨A', C', rfl, _, h2, h3, h4⟩
          rw [take_one hb] at h2
          obtain ⟨q1, q2⟩ := h2
          rcases q2 with q2 | ⟨g, off, rfl, _, q3⟩
          · cases q2
          have d0 : w3.cell? ⟨g, off, none⟩ = some (.int .u8 b) := q3 0 b rfl
          have HO3 := hid_mk (HO.out.trans (((Out.refl r (r + 1) wr).drew).trans h4))
          have HR3 := hid_mk h3
          have HB := hid_mk hb
          clear q3 h3 h4 hb q1
          refine hK.out _ _ trivial (fun _ => ?_)
          refine tk 2 ?_
          refine wpAnyH_ready (rs := [3]) (by kernel_rfl) (by simp) ?_
          refine AllReadyH.cons rfl (fun KK hK => ?_) AllReadyH.nil
          simp only [xa, xb, xc]
          go_simp
          refine hK.out _ _ trivial (fun _ => ?_)
          refine tk 6 ?_
          refine wpAnyH_ready (rs := [8]) (by kernel_rfl) (by simp) ?_
          refine AllReadyH.cons rfl (fun KK hK => ?_) AllReadyH.nil
          simp only [xa, xb, xc]
          go_simp
          refine want_any _ _ _ ?_ ?_
          · intro hh
            have hbc : b = 1 := by simpa [hE] using hh
            subst hbc
            refine hK.out _ _ trivial (fun _ => ?_)
            refine wpAnyH_done (by kernel_rfl) ?_ _
            go_wp2
            go_roundw
            case rel => exact ⟨3 + 1, by first | rfl | go_num, by omega, by rw [HM.out, mag_ok HB.out, hl2.out, Nat.add_assoc], by have := HR3.out; rwa [Nat.add_assoc] at this, HO3.out⟩
            case measure => first | decide | (simp [intOf])
          · intro hh
            have hbc : b ≠ 1 := by simpa [hE] using hh
            exact ⟨rfl, HO3.out, .inr ⟨60, a + 3, by rw [HM.out, mag_no HB.out hbc], rfl⟩⟩
        · refine (take_end HRZ.out 1 (by omega)).mono ?_
          rintro e w3 ⟨rfl, ho3⟩
          have hae : a + 3 = n := by have := hal.out; omega
          exact ⟨rfl, HO.out.trans (((Out.refl r (r + 1) wr).drew).trans (ho3.any _ _)), .inr ⟨61, n, by rw [HM.out, mag_end (by rw [hlen.out, hae]), hae], rfl⟩⟩
    · have hiE : i = 4 := by omega
      subst hiE
      go_wp2
      exact bodyPost_end (results_none Tryd.results52 _ _ _) rfl ⟨HO.out, .inl ⟨_, HM.out, rfl, HRD.out⟩⟩
end Go.Proofs.YtapjfokkcgdhhaaDoor
