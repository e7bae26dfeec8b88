import Derived.Test.YtcnjlbjpeklgkaaGreatDoorR07
namespace Go.Proofs.YtcnjlbjpeklgkaaGreatDoor
open Go.RowKit
set_option linter.unusedVariables false
set_option linter.unusedSimpArgs false

theorem neg64 {n : Int} (h0 : 0 ≤ n) (h1 : n ≤ 9223372036854775807) : wrap64 (-n) = -n := by unfold wrap64; omega
set_option maxRecDepth 100000 in
set_option maxHeartbeats 1000000 in
/-- a fixnum -/
theorem fixnum_any (s : ByteArray) (w : World) : Calls Tryz.prog 150 #[.string s] w fun x w' => Out 0 0 w w' ∧ ((∃ n, opnF 1 (bt s) = some (.inl n) ∧ x = .returned (.int .i64 n)) ∨ (opnF 1 (bt s) = none ∧ x = .panicked [giveUp])) := by
  obtain ⟨r, b, hcut, hb⟩ := cutp_dec s ⟨#[45]⟩
  have HC := hid_mk hcut
  have hop : opnF 1 (bt s) = match (if 1 < (bt s).length ∧ (bt s).head? = some 45 then (decF ((bt s).drop 1)).bind (fun n => if n = 0 then none else some (-n)) else decF (bt s)) with
    | some n => if -1152921504606846976 ≤ n ∧ n ≤ 1152921504606846975 then some (.inl n) else none
    | none => none := rfl
  rcases hb with ⟨rfl, hs⟩ | ⟨rfl, rfl, hs⟩
  · have e1 : bt s = 45 :: bt r := hs
    cases hd : decF (bt r) with
    | none =>
      have hno : opnF 1 (bt s) = none := by
        rw [hop, e1]
        by_cases hl : 1 < (45 :: bt r).length ∧ (45 :: bt r).head? = some 45
        · rw [if_pos hl]
          simp only [List.drop_succ_cons, List.drop_zero, hd, Option.bind_none]
        · rw [if_neg hl]
          have : decF (45 :: bt r) = none := by
            unfold decF
            split
            · rfl
            · exact decA_no (by omega)
          rw [this]
      have HD := hid_mk (fun w => decimal_no hd w)
      have HN := hid_mk hno
      clear hcut hs e1 hop hd hno
      go_enter Tryz.func150, Tryz.ntmps150
      go_wp2_with (first | (go_at_call 164; refine calls_same (HC.out _) ?_) | (go_at_call 146; refine (HD.out _).mono ?_; rintro e w2 ⟨rfl, o2⟩))
      exact ⟨rfl, o2, .inr ⟨HN.out, rfl⟩⟩
    | some n =>
      have hrg := decF_rng hd
      have hl : 1 < (bt s).length ∧ (bt s).head? = some 45 := by
        rw [e1]
        refine ⟨?_, rfl⟩
        cases hr : bt r with
        | nil => rw [hr] at hd; cases hd
        | cons a l => simp
      rw [if_pos hl, e1] at hop
      simp only [List.drop_succ_cons, List.drop_zero, hd, Option.bind_some] at hop
      rw [← e1] at hop
      have HD := hid_mk (fun w => decimal_yes hd w)
      have hng := neg64 hrg.1 hrg.2
      by_cases hz : n = 0
      · subst hz
        have HN := hid_mk hop
        clear hcut hs e1 hop hd hl hrg
        go_enter Tryz.func150, Tryz.ntmps150
        go_wp2_with (first | (go_at_call 164; refine calls_same (HC.out _) ?_) | (go_at_call 146; refine (HD.out _).mono ?_; rintro e w2 ⟨rfl, o2⟩) | (go_at_call 104; refine calls_stop (awant_no _) ?_))
        exact ⟨rfl, o2, .inr ⟨HN.out, rfl⟩⟩
      · have h0 : decide (0 < n) = true := by simp; omega
        rw [if_neg hz] at hop
        by_cases hlo : -1152921504606846976 ≤ -n
        · have h1 : decide (n ≤ 1152921504606846976) = true := decide_eq_true (by omega)
          have h2 : decide (-n ≤ 1152921504606846975) = true := decide_eq_true (by omega)
          simp only [if_pos (show -1152921504606846976 ≤ -n ∧ -n ≤ 1152921504606846975 from ⟨hlo, by omega⟩)] at hop
          have HN := hid_mk hop
          clear hcut hs e1 hop hd hl hrg hz hlo
          go_enter Tryz.func150, Tryz.ntmps150
          go_wp2_with (first | (go_at_call 164; refine calls_same (HC.out _) ?_) | (go_at_call 146; refine (HD.out _).mono ?_; rintro e w2 ⟨rfl, o2⟩) | (go_at_call 104; refine calls_same (awant_yes _) ?_))
          go_ret
          exact ⟨o2, .inl ⟨-n, HN.out, rfl⟩⟩
        · have h1 : decide (n ≤ 1152921504606846976) = false := decide_eq_false (by omega)
          simp only [if_neg (show ¬ (-1152921504606846976 ≤ -n ∧ -n ≤ 1152921504606846975) from fun q => hlo q.1)] at hop
          have HN := hid_mk hop
          clear hcut hs e1 hop hd hl hrg hz hlo
          go_enter Tryz.func150, Tryz.ntmps150
          go_wp2_with (first | (go_at_call 164; refine calls_same (HC.out _) ?_) | (go_at_call 146; refine (HD.out _).mono ?_; rintro e w2 ⟨rfl, o2⟩) | (go_at_call 104; first | refine calls_stop (awant_no _) ?_ | refine calls_same (awant_yes _) ?_))
          exact ⟨rfl, o2, .inr ⟨HN.out, rfl⟩⟩
  · have hl : ¬ (1 < (bt r).length ∧ (bt r).head? = some 45) := by
      rintro ⟨_, h⟩
      cases hr : bt r with
      | nil => rw [hr] at h; cases h
      | cons a l =>
        rw [hr] at h
        cases h
        exact hs l hr
    rw [if_neg hl] at hop
    cases hd : decF (bt r) with
    | none =>
      rw [hd] at hop
      have HD := hid_mk (fun w => decimal_no hd w)
      have HN := hid_mk hop
      clear hcut hs hop hd hl
      go_enter Tryz.func150, Tryz.ntmps150
      go_wp2_with (first | (go_at_call 164; refine calls_same (HC.out _) ?_) | (go_at_call 146; refine (HD.out _).mono ?_; rintro e w2 ⟨rfl, o2⟩))
      exact ⟨rfl, o2, .inr ⟨HN.out, rfl⟩⟩
    | some n =>
      rw [hd] at hop
      have hrg := decF_rng hd
      have HD := hid_mk (fun w => decimal_yes hd w)
      have h1 : decide (-1152921504606846976 ≤ n) = true := decide_eq_true (by omega)
      by_cases hhi : n ≤ 1152921504606846975
      · have h2 : decide (n ≤ 1152921504606846975) = true := decide_eq_true hhi
        simp only [if_pos (show -1152921504606846976 ≤ n ∧ n ≤ 1152921504606846975 from ⟨by omega, hhi⟩)] at hop
        have HN := hid_mk hop
        clear hcut hs hop hd hl hrg hhi
        go_enter Tryz.func150, Tryz.ntmps150
        go_wp2_with (first | (go_at_call 164; refine calls_same (HC.out _) ?_) | (go_at_call 146; refine (HD.out _).mono ?_; rintro e w2 ⟨rfl, o2⟩) | (go_at_call 104; refine calls_same (awant_yes _) ?_))
        go_ret
        exact ⟨o2, .inl ⟨n, HN.out, rfl⟩⟩
      · have h2 : decide (n ≤ 1152921504606846975) = false := decide_eq_false hhi
        simp only [if_neg (show ¬ (-1152921504606846976 ≤ n ∧ n ≤ 1152921504606846975) from fun q => hhi q.2)] at hop
        have HN := hid_mk hop
        clear hcut hs hop hd hl hrg hhi
        go_enter Tryz.func150, Tryz.ntmps150
        go_wp2_with (first | (go_at_call 164; refine calls_same (HC.out _) ?_) | (go_at_call 146; refine (HD.out _).mono ?_; rintro e w2 ⟨rfl, o2⟩) | (go_at_call 104; first | refine calls_stop (awant_no _) ?_ | refine calls_same (awant_yes _) ?_))
        exact ⟨rfl, o2, .inr ⟨HN.out, rfl⟩⟩
/-- the digits of hexadecimal numbers -/
def hxS : ByteArray := ⟨#[48, 49, 50, 51, 52, 53, 54, 55, 56, 57, 97, 98, 99, 100, 101, 102]⟩
theorem hx_low : ∀ r : Fin 128, Lib.indexByte hxS.data.toList ((r.val : Int)).toNat.toUInt8 = hxR r.val := by decide +kernel
theorem hx_none : ∀ c : Fin 256, 128 ≤ c.val → ∀ k : Fin 16, Lib.indexByte (hxS.data.toList.drop k.val) ((c.val : Int)).toNat.toUInt8 = -1 := by decide +kernel
theorem rune_low (r : Nat) (h : r < 128) (w : World) : Calls Tryz.prog 170 #[.string hxS, .int .i32 (r : Int)] w fun e w' => e = .returned (.int .i64 (hxR r)) ∧ w' = w := by
  have := Tryz.strings_IndexRune_ascii hxS (r : Int) w (by omega) (by omega)
  rw [hx_low ⟨r, h⟩] at this
  exact this
end Go.Proofs.YtcnjlbjpeklgkaaGreatDoor
namespace Go.Proofs.YtcnjlbjpeklgkaaGreatDoor
open Go.RowKit
set_option linter.unusedVariables false
set_option linter.unusedSimpArgs false

theorem hxS_low : ∀ k : Fin 16, ((hxS.data.toList[k.val]?).map (fun c => decide (c.toNat < 128))) = some true := by decide +kernel
theorem hxS_rune {pos : Nat} (h : pos < 16) : (Utf8.decode hxS pos).1 < 128 ∧ (Utf8.decode hxS pos).2 = 1 := by
  have hr := dec_at hxS pos h
  rcases hr with ⟨h1, h2, _⟩ | ⟨_, h1, _, h3⟩
  · exact ⟨h1, h2⟩
  · exfalso
    obtain ⟨c, hc, h4⟩ := h3 0 (by omega)
    have := hxS_low ⟨pos, h⟩
    rw [bt_bl] at hc
    unfold bl at hc
    rw [List.getElem?_map, Nat.add_zero] at hc
    cases e : hxS.data.toList[pos]? with
    | none => rw [e] at hc; cases hc
    | some x =>
      rw [e] at hc this
      simp at hc this
      omega
/-- the UTF-8 of a rune that is no byte -/
theorem enc_high {r : Nat} (h : 128 ≤ r) (hv : Utf8.valid (r : Int) = true) : ∃ m b, (Utf8.encode (r : Int)).size = m + 1 ∧ 1 ≤ m ∧ m ≤ 3 ∧ (Utf8.encode (r : Int)).data.toList[m]? = some b ∧ 128 ≤ b.toNat := by
  have hr : r ≤ 1114111 := by
    unfold Utf8.valid at hv
    simp at hv
    omega
  have hb : ∀ n : Nat, n < 64 → (UInt8.ofNat (128 + n)).toNat = 128 + n := by
    intro n hn
    simp [UInt8.toNat_ofNat']
    omega
  unfold Utf8.encode
  simp only [hv, if_true, Int.toNat_natCast]
  rw [if_neg (by omega)]
  by_cases h1 : r < 2048
  · rw [if_pos h1]
    exact ⟨1, _, rfl, by omega, by omega, rfl, by rw [hb _ (by omega)]; omega⟩
  · rw [if_neg h1]
    by_cases h2 : r < 65536
    · rw [if_pos h2]
      exact ⟨2, _, rfl, by omega, by omega, rfl, by rw [hb _ (by omega)]; omega⟩
    · rw [if_neg h2]
      exact ⟨3, _, rfl, by omega, by omega, rfl, by rw [hb _ (by omega)]; omega⟩
set_option maxRecDepth 100000 in
set_option maxHeartbeats 2000000 in
/-- a rune that is no byte is none of the digits -/
theorem rune_high {r : Nat} (h : 128 ≤ r) (w : World) : Calls Tryz.prog 170 #[.string hxS, .int .i32 (r : Int)] w fun e w' => e = .returned (.int .i64 (-1)) ∧ Out 0 0 w w' := by
  have g0 : decide ((0 : Int) ≤ (r : Int)) = true := decide_eq_true (by omega)
  have g1 : decide ((r : Int) < 128) = false := decide_eq_false (by omega)
  by_cases he : r = 65533
  · have g2 : ((r : Int) == 65533) = true := by rw [he]; rfl
    clear he
    go_enter Tryz.func170, Tryz.ntmps170
    go_wp2
    go_loopw [5] (fun _ wr => ∃ pos, wr.heap[w.heap.size]? = some (.stringIter hxS pos) ∧ Out 0 0 w wr ∧ pos ≤ 16) (fun _ wr => 16 - wr.iterPos w.heap.size)
    case atStart => exact ⟨0, World.iter_heap w hxS 0, (Out.refl 0 0 w).alloc _, Nat.zero_le _⟩
    case round =>
      obtain ⟨pos, hit, hO, hp⟩ := hrel
      have HI := hid_mk hit
      have HO := hid_mk hO
      by_cases hlt : pos < 16
      · have hnx := fun ty => Lib.run_next_any_at (P := Tryz.prog) wr w.heap.size hxS pos ty hit hlt
        have hrn := hxS_rune hlt
        obtain ⟨⟨c, wd⟩, hcw⟩ : ∃ q, Utf8.decode hxS pos = q := ⟨_, rfl⟩
        rw [hcw] at hrn hnx
        simp only at hrn hnx
        obtain ⟨hc, rfl⟩ := hrn
        have hne : ((c : Int) == 65533) = false := by simp only [beq_eq_false_iff_ne, ne_eq]; omega
        have HH := hid_mk (Lib.iterAt_heap wr w.heap.size hxS pos (pos + 1) hit)
        have HL := hid_mk hlt
        clear hit hO hp hcw hlt hc
        go_wp2
        go_roundw
        case rel => exact ⟨pos + 1, HH.out, out_step HO.out _ _, HL.out⟩
        case measure => rw [iter_pos HH.out, iter_pos HI.out]; have := HL.out; omega
      · have hnx := fun ty => Lib.run_next_end_at (P := Tryz.prog) wr w.heap.size hxS pos ty hit hlt
        clear hit hO hp hlt
        go_wp2
        go_ret
        exact ⟨rfl, HO.out⟩
  · have g2 : ((r : Int) == 65533) = false := by simp only [beq_eq_false_iff_ne, ne_eq]; omega
    rcases hv : Lib.validRune (r : Int) with _ | _
    · have V : Hid (∀ w, Calls Tryz.prog 174 #[.int .i32 (r : Int)] w fun e w' => e = .returned (.bool false) ∧ w' = w) := hid_mk fun w => by have := Tryz.utf8_ValidRune (r : Int) w; rwa [hv] at this
      clear he hv
      go_enter Tryz.func170, Tryz.ntmps170
      go_wp2_with (go_at_call 174; refine calls_same (V.out _) ?_)
      go_ret
      exact ⟨rfl, Out.refl _ _ _⟩
    · have V : Hid (∀ w, Calls Tryz.prog 174 #[.int .i32 (r : Int)] w fun e w' => e = .returned (.bool true) ∧ w' = w) := hid_mk fun w => by have := Tryz.utf8_ValidRune (r : Int) w; rwa [hv] at this
      have hv2 : Utf8.valid (r : Int) = true := by rw [← hv]; unfold Utf8.valid Lib.validRune; rw [Bool.eq_iff_iff]; simp; omega
      obtain ⟨m, b, k1, k2, k3, k4, k5⟩ := enc_high h hv2
      obtain ⟨E, hE⟩ : ∃ E, Utf8.encode (r : Int) = E := ⟨_, rfl⟩
      rw [hE] at k1 k4
      clear he hv hv2
      go_enter Tryz.func170, Tryz.ntmps170
      go_wp2_with (go_at_call 174; refine calls_same (V.out _) ?_)
      go_step3
      go_wp2
      have hw1 : wrap64 ((E.size : Int) - 1) = (m : Int) := by unfold wrap64; omega
      (try rw [hw1])
      have hlt : m < E.size := by omega
      have hlt2 : m < hxS.size := by show m < 16; omega
      have hb : ((E[m]'hlt).toNat : Int) = (b.toNat : Int) := by
        have := bt_get hlt
        rw [bt_bl] at this
        unfold bl at this
        rw [List.getElem?_map, k4] at this
        exact (Option.some.inj this).symm
      have hx : ((hxS[m]'hlt2).toNat : Int) < 128 := by
        have := hxS_low ⟨m, hlt2⟩
        have e := bt_get hlt2
        rw [bt_bl] at e
        unfold bl at e
        rw [List.getElem?_map] at e
        cases e2 : hxS.data.toList[m]? with
        | none => rw [e2] at e; cases e
        | some x =>
          rw [e2] at e this
          simp at e this
          omega
      have hne : (((hxS[m]'hlt2).toNat : Int) != ((E[m]'hlt).toNat : Int)) = true := by rw [hb, bne_iff_ne]; omega
      obtain ⟨p1, hp1⟩ : ∃ p1, p1 = m + 1 := ⟨_, rfl⟩
      have hm1 : IntKind.i64.wrap ((m : Int) + 1) = (p1 : Int) := by simp [IntKind.wrap, IntKind.signed, IntKind.bits]; omega
      have hle1 : p1 ≤ hxS.size := by show p1 ≤ 16; omega
      have HB : Hid (∀ W, Calls Tryz.prog 60 #[.string (hxS.extract p1 hxS.size), .int .u8 ((E[m]'hlt).toNat : Int)] W fun e w' => e = .returned (.int .i64 (-1)) ∧ w' = W) := hid_mk fun W => by
        have := Tryz.strings_IndexByte (hxS.extract p1 hxS.size) ((E[m]'hlt).toNat : Int) W
        have hn := hx_none ⟨b.toNat, b.toNat_lt⟩ k5 ⟨p1, by omega⟩
        have e : (hxS.extract p1 hxS.size).data.toList = hxS.data.toList.drop p1 := by
          rcases (by omega : p1 = 2 ∨ p1 = 3 ∨ p1 = 4) with e | e | e <;> (rw [e]; rfl)
        rw [e, hb, hn] at this
        rw [hb]
        exact this
      clear k4 k5 hx k1 hb hp1
      go_loopw [9] (fun v wr => v = .int .i64 (m : Int) ∧ wr = w) (fun _ _ => 0)
      case atStart => exact ⟨rfl, rfl⟩
      case round =>
        obtain ⟨rfl, rfl⟩ := hrel
        have hm16 : decide ((m : Int) < 16) = true := decide_eq_true (by omega)
        go_wp2
        go_step3
        go_wp2
        refine wp_region_held_drew (S := fun _ => True) (by kernel_rfl) ?hS1 (fun hHeld => ?rest1)
        case hS1 => exact trivial
        refine tk 0 ?_
        refine tk 1 ?_
        refine tk 2 ?_
        refine tk 3 ?_
        refine tk 4 ?_
        refine tk 5 ?_
        refine tk 6 ?_
        refine wpAnyH_done (by kernel_rfl) ?_ _
        go_wp2
        refine wp_region_held_drew (S := fun _ => True) (by kernel_rfl) ?hS9 (fun hHeld => ?rest9)
        case hS9 => exact trivial
        refine tk 0 ?_
        refine tk 1 ?_
        refine tk 2 ?_
        refine tk 3 ?_
        refine tk 4 ?_
        refine tk 5 ?_
        refine tk 6 ?_
        refine wpAnyH_ready (rs := [7]) (by kernel_rfl) (by simp) ?_
        refine AllReadyH.cons rfl (fun KK hK => ?_) AllReadyH.nil
        simp only [xa, xb, xc]
        go_simp
        go_at_call 60
        refine calls_same (HB.out _) ?_
        refine hK.out _ _ ?hS17 (fun hHeld2 => ?rest17)
        case hS17 => exact trivial
        clear hK KK
        (try clear hHeld)
        have hHeld := hHeld2
        clear hHeld2
        (try simp only [Act.put, xa, xb, xc, xd, xe, xf])
        refine tk 8 ?_
        refine wpAnyH_done (by kernel_rfl) ?_ _
        go_wp2
        rw [Exit.noGoto_ret]
        simp only [Exit.inBlock]
        simp +zetaDelta only [Exit.inBlock, Exit.noGoto, Exit.then]
        go_ret
        exact ⟨rfl, ((Out.refl _ _ _).drew).drew⟩
end Go.Proofs.YtcnjlbjpeklgkaaGreatDoor
namespace Go.Proofs.YtcnjlbjpeklgkaaGreatDoor
open Go.RowKit
set_option linter.unusedVariables false
set_option linter.unusedSimpArgs false

theorem ofInt_same (a b : Int) (h : a % 18446744073709551616 = b % 18446744073709551616) : BitVec.ofInt 64 a = BitVec.ofInt 64 b := by
  apply BitVec.eq_of_toNat_eq
  rw [BitVec.toNat_ofInt, BitVec.toNat_ofInt]
  congr 1
/-- one digit more -/
theorem or_hex {N d : Nat} (hd : d < 16) (hN : N * 16 + d < 18446744073709551616) : bits .or .i64 (wrap64 (sgn64 (N : Int) * 16)) (d : Int) = sgn64 ((N : Int) * 16 + d) := by
  have e1 : BitVec.ofInt 64 (wrap64 (sgn64 (N : Int) * 16)) = BitVec.ofInt 64 ((N * 2 ^ 4 : Nat) : Int) := by
    refine ofInt_same _ _ ?_
    unfold wrap64 sgn64
    split <;> omega
  have e : bits .or .i64 (wrap64 (sgn64 (N : Int) * 16)) (d : Int) = IntKind.wrap .i64 ((BitVec.ofInt 64 (wrap64 (sgn64 (N : Int) * 16)) ||| BitVec.ofInt 64 (d : Int)).toNat : Nat) := rfl
  have h : (BitVec.ofInt 64 ((N * 2 ^ 4 : Nat) : Int) ||| BitVec.ofInt 64 (d : Int)).toNat = N * 16 + d := by
    rw [BitVec.toNat_or, BitVec.ofInt_natCast, BitVec.ofInt_natCast, BitVec.toNat_ofNat, BitVec.toNat_ofNat, Nat.mod_eq_of_lt (by omega), Nat.mod_eq_of_lt (by omega), Nat.mul_comm, ← Nat.two_pow_add_eq_or_of_lt (by omega)]
  rw [e, e1, h]
  unfold sgn64
  simp [IntKind.wrap, IntKind.signed, IntKind.bits]
  split <;> split <;> omega
theorem pow16 {p : Nat} (h : p < 16) : (16 : Int) ^ p * 16 ≤ 18446744073709551616 := by
  have : p = 0 ∨ p = 1 ∨ p = 2 ∨ p = 3 ∨ p = 4 ∨ p = 5 ∨ p = 6 ∨ p = 7 ∨ p = 8 ∨ p = 9 ∨ p = 10 ∨ p = 11 ∨ p = 12 ∨ p = 13 ∨ p = 14 ∨ p = 15 := by omega
  rcases this with rfl | rfl | rfl | rfl | rfl | rfl | rfl | rfl | rfl | rfl | rfl | rfl | rfl | rfl | rfl | rfl <;> decide
theorem hex_up {N d : Int} {p : Nat} (hN : 0 ≤ N) (hN2 : N < 16 ^ p) (hp : p < 16) (hd : 0 ≤ d) (hd2 : d ≤ 15) : bits .or .i64 (wrap64 (sgn64 N * 16)) d = sgn64 (N * 16 + d) ∧ 0 ≤ N * 16 + d ∧ N * 16 + d < 16 ^ (p + 1) := by
  have := pow16 hp
  have e : (16 : Int) ^ (p + 1) = 16 ^ p * 16 := Int.pow_succ _ _
  generalize (16 : Int) ^ p = y at *
  refine ⟨?_, by omega, by omega⟩
  obtain ⟨n, rfl⟩ := Int.eq_ofNat_of_zero_le hN
  obtain ⟨k, rfl⟩ := Int.eq_ofNat_of_zero_le hd
  exact or_hex (by omega) (by omega)
theorem rune_any (c : Nat) (w : World) : Calls Tryz.prog 170 #[.string hxS, .int .i32 (c : Int)] w fun e w' => e = .returned (.int .i64 (hxR c)) ∧ Out 0 0 w w' := by
  by_cases h : c < 128
  · exact (rune_low c h w).mono fun e w' ⟨h1, h2⟩ => ⟨h1, h2 ▸ Out.refl _ _ _⟩
  · have : hxR c = -1 := by unfold hxR; rw [if_neg (by omega), if_neg (by omega)]
    rw [this]
    exact rune_high (by omega) w
set_option maxRecDepth 100000 in
set_option maxHeartbeats 1000000 in
theorem hex_any (s : ByteArray) (hs : s.size ≤ 16) (w : World) : Calls Tryz.prog 163 #[.string s] w fun x w' => Out 0 0 w w' ∧ ((∃ n, fl16 0 (bt s) = some n ∧ x = .returned (.int .i64 (sgn64 n))) ∨ (fl16 0 (bt s) = none ∧ x = .panicked [giveUp])) := by
  go_enter Tryz.func163, Tryz.ntmps163
  go_wp2
  go_loopw [3] (fun v wr => ∃ pos N, v = .int .i64 (sgn64 N) ∧ 0 ≤ N ∧ N < 16 ^ pos ∧ fl16 0 (bt s) = fl16 N ((bt s).drop pos) ∧ wr.heap[w.heap.size]? = some (.stringIter s pos) ∧ Out 0 0 w wr ∧ pos ≤ s.size) (fun _ wr => s.size - wr.iterPos w.heap.size)
  case atStart => exact ⟨0, 0, rfl, Int.le_refl _, by decide, rfl, World.iter_heap w s 0, (Out.refl 0 0 w).alloc _, Nat.zero_le _⟩
  case round =>
    obtain ⟨pos, N, rfl, hn0, hn1, hdc, hit, hO, hp⟩ := hrel
    have HO := hid_mk hO
    have HC := hid_mk hdc
    have HN := hid_mk (And.intro hn0 hn1)
    by_cases hlt : pos < s.size
    · have hnx := fun ty => Lib.run_next_any_at (P := Tryz.prog) wr w.heap.size s pos ty hit hlt
      have hr := dec_at s pos hlt
      obtain ⟨⟨c, wd⟩, hcw⟩ : ∃ q, Utf8.decode s pos = q := ⟨_, rfl⟩
      rw [hcw] at hr hnx
      simp only at hr hnx
      have HR := hid_mk hr
      have HH := hid_mk (Lib.iterAt_heap wr w.heap.size s pos (pos + wd) hit)
      have HL := hid_mk hlt
      have HI := hid_mk hit
      clear hit hO hp hr hcw hlt hn0 hn1 hdc
      obtain ⟨d, hd⟩ : ∃ d, hxR c = d := ⟨_, rfl⟩
      have D : Hid (∀ W, Calls Tryz.prog 170 #[.string hxS, .int .i32 (c : Int)] W fun e w' => e = .returned (.int .i64 d) ∧ Out 0 0 W w') := hid_mk fun W => by have := rune_any c W; rwa [hd] at this
      have Hd := hid_mk hd
      clear hd
      by_cases h0 : 0 ≤ d
      · have hg : decide (0 ≤ d) = true := decide_eq_true h0
        go_wp2_with (first | (go_at_call 170; refine (D.out _).mono ?_; rintro e w2 ⟨rfl, o2⟩) | (go_at_call 104; refine calls_same (awant_yes _) ?_))
        have hup := hex_up HN.out.1 HN.out.2 (by have := HL.out; omega) h0 (by have := hxR_rng c; have := Hd.out; omega)
        obtain ⟨hw1, hf⟩ := HR.out.hx_on (n := N) (by rw [Hd.out]; exact h0)
        refine ⟨⟨pos + wd, N * 16 + d, congrArg (Value.int .i64) hup.1, hup.2.1, by rw [hw1]; exact hup.2.2, ?_, o2.heap HH.out (.inr (Nat.zero_le _)), (out_step HO.out _ _).trans o2, by have := HR.out.pos; rw [bt_len] at this; omega⟩, ?_⟩
        · rw [HC.out, hf, Hd.out, hw1]
        · rw [iter_pos (o2.heap HH.out (.inr (Nat.zero_le _))), iter_pos HI.out]
          have := HR.out.pos; have := HL.out; omega
      · have hg : decide (0 ≤ d) = false := decide_eq_false h0
        go_wp2_with (first | (go_at_call 170; refine (D.out _).mono ?_; rintro e w2 ⟨rfl, o2⟩) | (go_at_call 104; refine calls_stop (awant_no _) ?_))
        refine ⟨rfl, (out_step HO.out _ _).trans o2, .inr ⟨?_, rfl⟩⟩
        rw [HC.out]
        exact HR.out.hx_no (by rw [Hd.out]; omega)
    · have hnx := fun ty => Lib.run_next_end_at (P := Tryz.prog) wr w.heap.size s pos ty hit hlt
      have he : (bt s).drop pos = [] := List.drop_eq_nil_of_le (by rw [bt_len]; omega)
      have HE := hid_mk he
      clear hit hO hp hlt hn0 hn1 hdc he
      go_wp2
      go_ret
      refine ⟨HO.out, .inl ⟨N, ?_, rfl⟩⟩
      rw [HC.out, HE.out]
      rfl
theorem hex_yes {s : ByteArray} {n : Int} (hs : s.size ≤ 16) (h : fl16 0 (bt s) = some n) (w : World) : Calls Tryz.prog 163 #[.string s] w fun x w' => x = .returned (.int .i64 (sgn64 n)) ∧ Out 0 0 w w' :=
  (hex_any s hs w).mono fun x w' ⟨ho, h1⟩ => by
    rcases h1 with ⟨m, h2, h3⟩ | ⟨h2, _⟩
    · rw [h] at h2; cases h2; exact ⟨h3, ho⟩
    · rw [h] at h2; cases h2
theorem hex_no {s : ByteArray} (hs : s.size ≤ 16) (h : fl16 0 (bt s) = none) (w : World) : Calls Tryz.prog 163 #[.string s] w fun x w' => x = .panicked [giveUp] ∧ Out 0 0 w w' :=
  (hex_any s hs w).mono fun x w' ⟨ho, h1⟩ => by
    rcases h1 with ⟨m, h2, h3⟩ | ⟨_, h3⟩
    · rw [h] at h2; cases h2
    · exact ⟨h3, ho⟩
set_option maxRecDepth 100000 in
set_option maxHeartbeats 1000000 in
/-- the bits of a flo -/
theorem flo_any (s : ByteArray) (w : World) : Calls Tryz.prog 151 #[.string s] w fun x w' => Out 0 0 w w' ∧ ((∃ n, opnF 5 (bt s) = some (.inl n) ∧ x = .returned (.int .i64 n)) ∨ (opnF 5 (bt s) = none ∧ x = .panicked [giveUp])) := by
  obtain ⟨r, b, hcut, hb⟩ := cutp_dec s ⟨#[48, 120]⟩
  have HC := hid_mk hcut
  have hop : opnF 5 (bt s) = if (bt s).length = 18 ∧ (bt s).take 2 = [48, 120] then (fl16 0 ((bt s).drop 2)).map (fun n => .inl (sgn64 n)) else none := rfl
  rcases hb with ⟨rfl, hs⟩ | ⟨rfl, rfl, hs⟩
  · have e1 : bt s = 48 :: 120 :: bt r := hs
    by_cases hl : r.size = 16
    · have h16 : ((r.size : Int) == 16) = true := by rw [hl]; rfl
      rw [if_pos (by rw [e1]; exact ⟨by simp [bt_len, hl], rfl⟩), e1] at hop
      simp only [List.drop_succ_cons, List.drop_zero] at hop
      rw [← e1] at hop
      cases hf : fl16 0 (bt r) with
      | none =>
        rw [hf] at hop
        have HF := hid_mk (fun w => hex_no (by omega) hf w)
        have HN := hid_mk hop
        clear hcut hs e1 hop hf hl
        go_enter Tryz.func151, Tryz.ntmps151
        go_wp2_with (first | (go_at_call 164; refine calls_same (HC.out _) ?_) | (go_at_call 104; refine calls_same (awant_yes _) ?_) | (go_at_call 163; refine (HF.out _).mono ?_; rintro e w2 ⟨rfl, o2⟩))
        exact ⟨rfl, o2, .inr ⟨HN.out, rfl⟩⟩
      | some n =>
        rw [hf] at hop
        have HF := hid_mk (fun w => hex_yes (by omega) hf w)
        have HN := hid_mk hop
        clear hcut hs e1 hop hf hl
        go_enter Tryz.func151, Tryz.ntmps151
        go_wp2_with (first | (go_at_call 164; refine calls_same (HC.out _) ?_) | (go_at_call 104; refine calls_same (awant_yes _) ?_) | (go_at_call 163; refine (HF.out _).mono ?_; rintro e w2 ⟨rfl, o2⟩))
        go_ret
        exact ⟨o2, .inl ⟨sgn64 n, HN.out, rfl⟩⟩
    · have h16 : ((r.size : Int) == 16) = false := by simp only [beq_eq_false_iff_ne, ne_eq]; omega
      rw [if_neg (by rw [e1]; rintro ⟨q, _⟩; simp [bt_len] at q; omega)] at hop
      have HN := hid_mk hop
      clear hcut hs e1 hop hl
      go_enter Tryz.func151, Tryz.ntmps151
      go_wp2_with (first | (go_at_call 164; refine calls_same (HC.out _) ?_) | (go_at_call 104; refine calls_stop (awant_no _) ?_))
      exact ⟨rfl, Out.refl _ _ _, .inr ⟨HN.out, rfl⟩⟩
  · rw [if_neg (by
      rintro ⟨q1, q2⟩
      refine hs ((bt r).drop 2) ?_
      have := List.take_append_drop 2 (bt r)
      rw [q2] at this
      exact this.symm)] at hop
    have HN := hid_mk hop
    clear hcut hs hop
    go_enter Tryz.func151, Tryz.ntmps151
    go_wp2_with (first | (go_at_call 164; refine calls_same (HC.out _) ?_) | (go_at_call 104; refine calls_stop (awant_no _) ?_))
    exact ⟨rfl, Out.refl _ _ _, .inr ⟨HN.out, rfl⟩⟩
end Go.Proofs.YtcnjlbjpeklgkaaGreatDoor
