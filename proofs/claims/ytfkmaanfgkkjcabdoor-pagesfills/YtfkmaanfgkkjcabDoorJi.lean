/- PagesFills -/
import Derived.Test.YtfkmaanfgkkjcabDoorJz
namespace Go.Proofs.YtfkmaanfgkkjcabDoor
open Go.RowKit
set_option linter.unusedVariables false
set_option linter.unusedSimpArgs false

set_option maxRecDepth 100000 in
set_option maxHeartbeats 8000000 in
theorem fills_any {w : World} (hT : Tab w) (n0 c : Int) (hn : -9223372036854775808 ≤ n0 ∧ n0 ≤ 9223372036854775807) (hc : -9223372036854775808 ≤ c ∧ c ≤ 9223372036854775807) :
    Calls Tryd.prog 3 #[.int .i64 n0, .int .i64 c] w fun e w' => e = .returned (.bool true) ∧ Below w.heap.size w w' := by
  obtain ⟨m, hm, hm2⟩ := wth_nat n0 4096 (by decide)
  have HW1 := hid_mk (within_any n0 4096 w hn.1 hn.2 (by decide) (by decide))
  rw [hm] at HW1
  obtain ⟨N, hN⟩ : ∃ N : Nat, 1 + m = N := ⟨_, rfl⟩
  have eN : (1 : Int) + (m : Int) = (N : Int) := by omega
  have HN : Hid (1 ≤ N ∧ N ≤ 4096) := by show _ ∧ _; omega
  obtain ⟨at', hat, hat2⟩ := wth_nat c (N : Int) (by have := HN.out; omega)
  have HW2 : Hid (∀ w', Calls Tryd.prog 4 #[.int .i64 c, .int .i64 (N : Int)] w' fun e w'' => e = .returned (.int .i64 (at' : Int)) ∧ w'' = w') := fun w' => by
    have := within_any c (N : Int) w' hc.1 hc.2 (by have := HN.out; omega) (by have := HN.out; omega)
    rw [hat] at this
    exact this
  have HA : Hid (at' < N) := by show at' < N; omega
  have HNw := hid_mk (new_yes hT N HN.out.1 HN.out.2)
  have HT := hid_mk hT
  clear hT hn hc hm hN hat
  go_enter Tryd.func3, Tryd.ntmps3
  go_wp2_with (go_at_call 4; refine calls_same HW1.out ?_)
  refine HNw.out.mono ?_
  rintro e w1 ⟨rfl, ht, ho, hs⟩
  have HTt := hid_mk ht
  have HO1 := hid_mk ho
  have HAl := hid_mk (alive_any (HT.out.quiet ho))
  obtain ⟨b, hb⟩ : ∃ b, w.heap.size + 1 = b := ⟨_, rfl⟩
  obtain ⟨bw, hbw⟩ : ∃ bw, w.heap.size = bw := ⟨_, rfl⟩
  have HLo : Hid (w.heap.size ≤ b ∧ w.heap.size ≤ bw) := by show _ ∧ _; omega
  rw [hb] at HTt ⊢
  rw [hbw] at HTt
  have n6 : (N : Int) ≤ 4096 := by have := HN.out; omega
  have n5 : (1 : Int) ≤ (N : Int) := by have := HN.out; omega
  clear ht ho hs HNw HW1 eN hm2 hb hbw hat2
  go_wp2_with (go_at_call 6; refine HAl.out.mono ?_; rintro e w2 ⟨rfl, ho⟩; have HO2 := hid_mk (HO1.out.trans ho); have HT2 := hid_mk (HTt.out.quiet ho); clear ho)
  clear HAl HTt HO1
  go_loopw [7] (fun y wr => ∃ (i : Nat) (T : Nat → Int × Int × Int), i ≤ N ∧ y = .int .i64 i ∧ TblAt 35 wr b bw N T ∧ FullTo T N i ∧ Out 0 0 w wr) (fun y _ => N - (intOf y).toNat)
  case atStart => exact ⟨0, _, Nat.zero_le _, rfl, HT2.out, ⟨fun j hj => by omega, fun j _ _ => rfl⟩, HO2.out⟩
  case round =>
    clear HT2 HO2
    obtain ⟨i, T, i1, rfl, ht, hf, ho⟩ := hrel
    have b0 : (0 : Int) ≤ (i : Int) := by omega
    by_cases hi : i < N
    · have b1 : (i : Int) < (N : Int) := by omega
      obtain ⟨k, hk, hk8⟩ := bits7 (i : Int)
      have HC : Hid (Calls Tryd.prog 7 #[.pointer (some ⟨b, 0, none⟩), .int .i64 (k : Int)] wr fun e w' => e = .returned (.tuple #[.int .i64 i, .int .i64 0]) ∧ TblAt 35 w' b bw N (setC T i k) ∧ Out bw (bw + 1) wr w') := by
        have := takeClass_any ht (HT.out.quiet ho) (k : Int)
        obtain ⟨x1, x2, x3⟩ := tc_some (S := T) (j := k) hk8 (hf.row hi)
        rw [x1, x2, x3] at this
        exact this
      have HF := hid_mk (hf.next (k : Int))
      have HO := hid_mk ho
      have z1 : ((i : Int) != (i : Int)) = false := by simp
      clear ht hf ho hk8
      go_wp2_with (go_at_call 7; refine HC.out.mono ?_; rintro e w3 ⟨rfl, ht, ho⟩; have HT3 := hid_mk ht; have HO3 : Hid (Out 0 0 w w3) := HO.out.past ho HLo.out.2; clear ht ho)
      go_roundw
      case rel => exact ⟨i + 1, _, by omega, by go_num, HT3.out, HF.out, HO3.out⟩
      case measure => simp [intOf]; omega
    · have : N = i := by omega
      subst this
      have hN1 := HN.out.1
      have HTt := hid_mk ht
      have HF := hid_mk hf
      have HO := hid_mk ho
      have HC : Hid (Calls Tryd.prog 7 #[.pointer (some ⟨b, 0, none⟩), .int .i64 0] wr fun e w' => e = .returned (.tuple #[.int .i64 0, .int .i64 20]) ∧ TblAt 35 w' b bw N T ∧ Out bw (bw + 1) wr w') := by
        have := takeClass_any ht (HT.out.quiet ho) ((0 : Nat) : Int)
        obtain ⟨x1, x2, x3⟩ := tc_none (S := T) (j := 0) (by decide) (hf.none (Nat.le_refl 1))
        rw [x1, x2, x3] at this
        exact this
      have HR : Hid (∀ w', TblAt 35 w' b bw N T → Tab w' → Calls Tryd.prog 8 #[.pointer (some ⟨b, 0, none⟩), .int .i64 1] w' fun e w'' => e = .returned (.tuple #[.int .i64 0, .int .i64 20]) ∧ TblAt 35 w'' b bw N T ∧ Out bw (bw + 1) w' w'') := fun w' t u => by
        have := takeRun_any t u ((1 : Nat) : Int)
        obtain ⟨x1, x2, x3⟩ := tr_none (S := T) (K := 1) (by decide) (by decide) (HF.out.none (Nat.le_refl 1))
        rw [x1, x2, x3] at this
        exact this
      have HFr : Hid (∀ w', TblAt 35 w' b bw N T → Tab w' → Calls Tryd.prog 9 #[.pointer (some ⟨b, 0, none⟩)] w' fun e w'' => e = .returned (.int .i64 0) ∧ Out 0 0 w' w'') := fun w' t u => by
        have := free_any t u
        rw [HF.out.cnt] at this
        exact this
      have HGv : Hid (∀ w', TblAt 35 w' b bw N T → Tab w' → Calls Tryd.prog 10 #[.pointer (some ⟨b, 0, none⟩), .int .i64 (at' : Int)] w' fun e w'' => e = .returned (.int .i64 0) ∧ TblAt 35 w'' b bw N (setF T at' 1) ∧ Out bw (bw + 1) w' w'') := fun w' t u => by
        have := give_any t u (at' : Int)
        obtain ⟨x1, x2⟩ := gv_same (S := T) HA.out (.inl (HF.out.1 at' HA.out))
        rw [x1, x2, HF.out.len HA.out] at this
        exact this
      have HR2 : Hid (∀ w', TblAt 35 w' b bw N (setF T at' 1) → Tab w' → Calls Tryd.prog 8 #[.pointer (some ⟨b, 0, none⟩), .int .i64 1] w' fun e w'' => e = .returned (.tuple #[.int .i64 at', .int .i64 0]) ∧ TblAt 35 w'' b bw N (setR (setF T at' 1) at' 1) ∧ Out bw (bw + 1) w' w'') := fun w' t u => by
        have := takeRun_any t u ((1 : Nat) : Int)
        obtain ⟨x1, x2, x3⟩ := tr_some (S := setF T at' 1) (K := 1) (by decide) (by decide) (HF.out.again HA.out)
        rw [x1, x2, x3] at this
        exact this
      have HFr2 : Hid (∀ w', TblAt 35 w' b bw N (setR (setF T at' 1) at' 1) → Tab w' → Calls Tryd.prog 9 #[.pointer (some ⟨b, 0, none⟩)] w' fun e w'' => e = .returned (.int .i64 0) ∧ Out 0 0 w' w'') := fun w' t u => by
        have := free_any t u
        rw [HF.out.cnt2 HA.out] at this
        exact this
      have z1 : ((at' : Int) == (at' : Int)) = true := by simp
      clear ht hf ho hi hN1
      go_wp2_with fail
      refine HC.out.mono ?_
      rintro e w3 ⟨rfl, ht, ho⟩
      have HT3 := hid_mk ht
      have HO3 : Hid (Out 0 0 w w3) := HO.out.past ho HLo.out.2
      clear ht ho HC
      go_wp2_with fail
      refine (HR.out _ HT3.out (HT.out.quiet HO3.out)).mono ?_
      rintro e w4 ⟨rfl, ht, ho⟩
      have HT4 := hid_mk ht
      have HO4 : Hid (Out 0 0 w w4) := HO3.out.past ho HLo.out.2
      clear ht ho HR HT3
      go_wp2_with (go_at_call 4; refine calls_same (HW2.out _) ?_)
      refine (HFr.out _ HT4.out (HT.out.quiet HO4.out)).mono ?_
      rintro e w5 ⟨rfl, ho⟩
      have HT5 := hid_mk (HT4.out.quiet ho)
      have HO5 := hid_mk (HO4.out.trans ho)
      clear ho HFr HT4
      go_wp2_with fail
      refine (HGv.out _ HT5.out (HT.out.quiet HO5.out)).mono ?_
      rintro e w6 ⟨rfl, ht, ho⟩
      have HT6 := hid_mk ht
      have HO6 : Hid (Out 0 0 w w6) := HO5.out.past ho HLo.out.2
      clear ht ho HGv HT5
      go_wp2_with fail
      refine (HR2.out _ HT6.out (HT.out.quiet HO6.out)).mono ?_
      rintro e w7 ⟨rfl, ht, ho⟩
      have HT7 := hid_mk ht
      have HO7 : Hid (Out 0 0 w w7) := HO6.out.past ho HLo.out.2
      clear ht ho HR2 HT6
      go_wp2_with fail
      refine (HFr2.out _ HT7.out (HT.out.quiet HO7.out)).mono ?_
      rintro e w8 ⟨rfl, ho⟩
      have HO8 := hid_mk (HO7.out.trans ho)
      clear ho HFr2 HT7
      go_wp2
      go_ret
      exact ⟨rfl, HO8.out.all⟩
end Go.Proofs.YtfkmaanfgkkjcabDoor
