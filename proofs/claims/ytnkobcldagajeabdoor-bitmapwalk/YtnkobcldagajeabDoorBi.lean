/- pieces -/
import Derived.Test.YtnkobcldagajeabDoorBf
namespace Go.Proofs.YtnkobcldagajeabDoor
open Go.RowKit
set_option linter.unusedVariables false
set_option linter.unusedSimpArgs false

set_option maxRecDepth 100000 in
set_option maxHeartbeats 2000000 in
theorem piecesCount (c g : Nat) (I : Nat → World → Prop) (hd : ∀ s w, I s w → I s w.drew) (a : Nat) (t : Int) (ha : a < 9223372036854775808) (ht : t ≤ 262144)
    (hI : ∀ s w, a / 64 ≤ s → 64 * (s : Int) < t → I s w → Calls Tryd.prog 25 #[.int .i64 s, .int .u64 (msk (a - 64 * s) (min (t.toNat - 64 * s) 64)), .pointer (some ⟨c, 0, none⟩), .pointer (some ⟨g, 0, none⟩)] w fun e w' => e = .returned (.tuple #[]) ∧ I (s + 1) w')
    {w : World} (h : I (a / 64) w) :
    Calls Tryd.prog 24 #[.int .i64 a, .int .i64 t, .func (.func 25) #[] #[.pointer (some ⟨c, 0, none⟩), .pointer (some ⟨g, 0, none⟩)]] w fun e w' => e = .returned (.tuple #[]) ∧ ∃ s, a / 64 ≤ s ∧ t ≤ 64 * (s : Int) ∧ (s = a / 64 ∨ 64 * (s : Int) < t + 64) ∧ I s w' := by
  have HD := hid_mk hd
  have HI := hid_mk hI
  have HW := hid_mk h
  have HA := hid_mk ha
  have HT := hid_mk ht
  have i1 : (0 : Int) ≤ (a : Int) := by omega
  clear hd hI h ha ht
  go_enter Tryd.func24, Tryd.ntmps24
  go_wp2_with fail
  go_loopw [6] (fun x wr => ∃ s : Nat, a / 64 ≤ s ∧ x = .int .i64 (64 * (s : Int)) ∧ (s = a / 64 ∨ 64 * (s : Int) < t + 64) ∧ I s wr) (fun x _ => (t - intOf x).toNat)
  case atStart => exact ⟨a / 64, Nat.le_refl _, by congr 1; unfold wrap64; have := HA.out; omega, .inl rfl, HW.out⟩
  case round =>
    obtain ⟨s, hs1, rfl, hs2, hw⟩ := hrel
    by_cases hlt : 64 * (s : Int) < t
    · have j1 : (0 : Int) ≤ (s : Int) := by omega
      have j2 : (s : Int) < 4096 := by have := HT.out; omega
      have HS := hid_mk hs1
      have HV := hid_mk hw
      obtain ⟨q, hq1, hq2⟩ : ∃ q : Int, t ≤ 64 * q ∧ q ≤ 4096 := ⟨4096, by have := HT.out; omega, by omega⟩
      have HX : Hid (a / 64 = s ∨ a / 64 < s) := by show _ ∨ _; omega
      clear hs1 hs2 hw
      have hws : IntKind.i64.wrap (s : Int) = (s : Int) := by simp [IntKind.wrap, IntKind.signed, IntKind.bits]; omega
      have HC := hid_mk (HI.out s wr.drew HS.out hlt (HD.out _ _ HV.out))
      have HR : Hid ((64 * (s : Int) < t ∧ 64 * ((s + 1 : Nat) : Int) < t + 64)) := by show _ ∧ _; omega
      rcases HX.out with hA | hA
      · obtain ⟨L, hL⟩ : ∃ L : Nat, (a : Int) - 64 * (s : Int) = (L : Int) := ⟨a - 64 * s, by omega⟩
        have a1 : (0 : Int) ≤ (a : Int) - 64 * (s : Int) := by omega
        have a2 : (a : Int) - 64 * (s : Int) < 64 := by omega
        have hL' : a - 64 * s = L := by omega
        have HL : Hid (L ≤ 64) := by show _ ≤ _; omega
        rw [hL'] at HC
        have HE := hid_mk hL
        clear hA hL hL'
        by_cases hB : 64 < t - 64 * (s : Int)
        · have hH' : min (t.toNat - 64 * s) 64 = 64 := by omega
          rw [hH'] at HC
          clear hH'
          go_wp2_with fail
          rw [HE.out] at *
          go_region_with (go_at_call 25; (first | rw [shl_up L HL.out, shl_64, andNot_up] | rw [shl_up2 L HL.out, shl_64, andNot_up]); refine HC.out.mono ?_; rintro e w2 ⟨rfl, hw2⟩)
          all_goals (try go_wp2)
          all_goals go_roundw
          case rel => exact ⟨s + 1, by have := HS.out; omega, by go_num, .inr HR.out.2, by assumption⟩
          case measure => simp [intOf]; omega
        · obtain ⟨H, hH⟩ : ∃ H : Nat, t - 64 * (s : Int) = (H : Int) := ⟨(t - 64 * s).toNat, by omega⟩
          have b2 : (0 : Int) ≤ t - 64 * (s : Int) := by omega
          have hH' : min (t.toNat - 64 * s) 64 = H := by omega
          have HH : Hid (H ≤ 64) := by show _ ≤ _; omega
          rw [hH'] at HC
          have HF := hid_mk hH
          clear hH hH'
          go_wp2_with fail
          rw [HE.out, HF.out] at *
          go_region_with (go_at_call 25; (first | rw [shl_up L HL.out, shl_up H HH.out, andNot_up] | rw [shl_up L HL.out, shl_up2 H HH.out, andNot_up] | rw [shl_up2 L HL.out, shl_up H HH.out, andNot_up] | rw [shl_up2 L HL.out, shl_up2 H HH.out, andNot_up]); refine HC.out.mono ?_; rintro e w2 ⟨rfl, hw2⟩)
          all_goals (try go_wp2)
          all_goals go_roundw
          case rel => exact ⟨s + 1, by have := HS.out; omega, by go_num, .inr HR.out.2, by assumption⟩
          case measure => simp [intOf]; omega
      · have a1 : (a : Int) - 64 * (s : Int) < 0 := by omega
        have hL' : a - 64 * s = 0 := by omega
        rw [hL'] at HC
        clear hA hL'
        by_cases hB : 64 < t - 64 * (s : Int)
        · have hH' : min (t.toNat - 64 * s) 64 = 64 := by omega
          rw [hH'] at HC
          clear hH'
          go_wp2_with fail
          go_region_with (go_at_call 25; (first | rw [shl_0, shl_64, andNot_up]); refine HC.out.mono ?_; rintro e w2 ⟨rfl, hw2⟩)
          all_goals (try go_wp2)
          all_goals go_roundw
          case rel => exact ⟨s + 1, by have := HS.out; omega, by go_num, .inr HR.out.2, by assumption⟩
          case measure => simp [intOf]; omega
        · obtain ⟨H, hH⟩ : ∃ H : Nat, t - 64 * (s : Int) = (H : Int) := ⟨(t - 64 * s).toNat, by omega⟩
          have b2 : (0 : Int) ≤ t - 64 * (s : Int) := by omega
          have hH' : min (t.toNat - 64 * s) 64 = H := by omega
          have HH : Hid (H ≤ 64) := by show _ ≤ _; omega
          rw [hH'] at HC
          have HF := hid_mk hH
          clear hH hH'
          go_wp2_with fail
          rw [HF.out] at *
          go_region_with (go_at_call 25; (first | rw [shl_0, shl_up H HH.out, andNot_up] | rw [shl_0, shl_up2 H HH.out, andNot_up]); refine HC.out.mono ?_; rintro e w2 ⟨rfl, hw2⟩)
          all_goals (try go_wp2)
          all_goals go_roundw
          case rel => exact ⟨s + 1, by have := HS.out; omega, by go_num, .inr HR.out.2, by assumption⟩
          case measure => simp [intOf]; omega
    · go_wp2
      exact bodyPost_end (results_none Tryd.results24 _ _ _) rfl ⟨rfl, s, hs1, by omega, hs2, hw⟩
end Go.Proofs.YtnkobcldagajeabDoor
