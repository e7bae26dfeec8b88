/- LayoutSound, sizes that fit -/
import Derived.Test.YtoajgbgmiionpaaDoorYm
namespace Go.Proofs.YtoajgbgmiionpaaDoor
open Go.RowKit
set_option linter.unusedVariables false
set_option linter.unusedSimpArgs false

set_option maxRecDepth 100000 in
set_option maxHeartbeats 8000000 in
theorem sound_yes1 {k n n' : Int} {q : Nat} {b b' fv vb nb : Bool} {v v' : Int} {w : World} (H : Snd k n n' q b b' fv vb nb true v v' (fl k q)) (hT : Tab w) (hf : fitsB k q = true) (hq : q ≤ 1024) (hn' : wrap64 (n - 1) = n')
    (VN : vb = true ∧ nb = true) (PRE : (b = false ∧ v = 0) ∨ (b = true ∧ fv = true ∧ Hid (1 ≤ v ∧ v ≤ 1024) ∧ decide (0 < v) = true ∧ decide (1024 < v) = false ∧ decide (v < 1) = false ∧ (b' = false ∨ (b' = true ∧ decide (0 < n) = false) ∨ (b' = true ∧ decide (0 < n) = true ∧ decide (v < v') = false)))) :
    Calls Tryd.prog 7 #[.int .i64 k, .int .i64 n, .int .i64 q] w fun e w' => e = .returned (.bool true) ∧ Out 0 0 w w' := by
  have HH := hid_mk H
  have HA := hid_mk (alive_any hT)
  have HT := hid_mk hT
  have HF := hid_mk hf
  have d6 : decide ((q : Int) < 0) = false := by simp
  have d7 : decide (1100 < (q : Int)) = false := by simp; omega
  have q0 : (0 : Int) ≤ (q : Int) := by omega
  have q1 : (q : Int) ≤ 1100 := by omega
  have HLe : Hid ((fl k q).length ≤ 1024) := Nat.le_trans (fl_len k q) hq
  clear hT H hf hq
  obtain ⟨rfl, rfl⟩ := VN
  rcases PRE with ⟨rfl, rfl⟩ | ⟨rfl, rfl, Q, d1, d2, d3, rfl | ⟨rfl, d4⟩ | ⟨rfl, d4, d5⟩⟩
  all_goals
    go_enter Tryd.func7, Tryd.ntmps7
    go_wp2_with (first | (go_at_call_of 18 (Value.int IntKind.i64 n); refine calls_same (HH.out.size _ HT.out) ?_) | (go_at_call_of 18 (Value.int IntKind.i64 n'); refine calls_same (HH.out.size' _ HT.out) ?_) | (go_at_call 9; refine HA.out.mono ?_; rintro e w1 ⟨rfl, ho⟩; have HO := hid_mk ho; have HT1 := hid_mk (HT.out.quiet ho); clear ho) | (go_at_call_of 19 (Value.int IntKind.i64 (q : Int)); refine calls_same (HH.out.fit _ HT1.out) ?_) | (go_at_call_of 19 (Value.int IntKind.i64 v); refine calls_same (HH.out.fitv _ HT1.out Q.out) ?_) | (go_at_call 20; refine calls_same (HH.out.vis _) ?_) | (go_at_call 21; refine calls_same (HH.out.num _) ?_) | (go_at_call 13; refine (HH.out.fld _ HT1.out).mono ?_; rintro e w2 ⟨v2, rfl, hl, ho⟩; obtain ⟨aa, cp, rfl, hrow⟩ := hl.slice; have HROW := hid_mk hrow; have HO2 := hid_mk (HO.out.trans ho); have HT2 := hid_mk (HT1.out.quiet ho); clear ho hl hrow))
    go_loopw [13, 14] (fun a i wr => ∃ (y : Int), a = .int .i64 (upTo k q y : Nat) ∧ i = .int .i64 y ∧ -1 ≤ y ∧ y ≤ q + 2 ∧ wr = w2) (fun _ i _ => ((q : Int) + 2 - intOf i).toNat)
    case atStart => exact ⟨-1, by rw [up_low (by omega)]; rfl, rfl, by omega, by omega, rfl⟩
    case round =>
      obtain ⟨y, rfl, rfl, y1, y2, rfl⟩ := hrel
      have HLe2 := HLe.out
      by_cases hy : y ≤ (q : Int) + 1
      · have d8 : decide (y ≤ (q : Int) + 1) = true := by simpa using hy
        by_cases hin : 1 ≤ y ∧ y < q
        · obtain ⟨i1, i2⟩ := hin
          obtain ⟨e1, e2, e3⟩ := role_some HF.out i1 i2
          have HR := hid_mk (HH.out.role y)
          rw [e1] at HR
          have d9 : decide (1 ≤ y) = true := by simpa using i1
          have d10 : decide (y < (q : Int)) = true := by simpa using i2
          by_cases h1 : roleW k y = 1
          · have e := up_one i1 i2 h1
            rw [h1] at HR
            clear e1 e2 e3 h1
            generalize upTo k q y = c at *
            go_wp2_with (go_at_call 22; refine calls_same (HR.out _ HT2.out) ?_)
            go_roundw
            case rel => exact ⟨y + 1, by rw [e], rfl, by omega, by omega, trivial⟩
            case measure => simp [intOf]; omega
          · obtain ⟨ea, eb, ec⟩ := up_more i1 i2 h1
            obtain ⟨g, rfl, g1, g2⟩ := HROW.out (by omega)
            have hc := g2 _ eb
            rw [ec] at hc
            clear ec g2 HROW
            have r1 : (roleW k y != 0) = true := by simp; omega
            have r2 : decide (roleW k y < 0) = false := by simp; omega
            have r3 : decide (9 < roleW k y) = false := by simp; omega
            have r4 : decide (1 < roleW k y) = true := by simp; omega
            generalize (fl k q).length = L at *
            generalize upTo k q y = c at *
            generalize roleW k y = r at *
            have b1 : (c : Int) < (L : Int) := by omega
            have b2 : decide ((L : Int) ≤ (c : Int)) = false := by simp; omega
            have b4 : decide (L ≤ c) = false := by simp; omega
            have b3 : (y != y) = false := by simp
            have b0 : (0 : Int) ≤ (c : Int) := by omega
            have b5 : (L : Int) ≤ 1024 := by omega
            clear e1 e2 e3 h1 eb
            go_wp2_with (go_at_call 22; refine calls_same (HR.out _ HT2.out) ?_)
            go_roundw
            case rel => exact ⟨y + 1, by rw [ea]; go_num, rfl, by omega, by omega, trivial⟩
            case measure => simp [intOf]; omega
        · have hin' : y < 1 ∨ (q : Int) ≤ y := by omega
          have e := up_out (k := k) hin'
          have HR := hid_mk (HH.out.role y)
          rw [role_none (.inr hin')] at HR
          clear hin
          generalize upTo k q y = c at *
          rcases hin' with i1 | i1
          · have d9 : decide (1 ≤ y) = false := by simp; omega
            go_wp2_with (go_at_call 22; refine calls_same (HR.out _ HT2.out) ?_)
            go_roundw
            case rel => exact ⟨y + 1, by rw [e], rfl, by omega, by omega, trivial⟩
            case measure => simp [intOf]; omega
          · by_cases i2 : 1 ≤ y
            · have d9 : decide (1 ≤ y) = true := by simpa using i2
              have d10 : decide (y < (q : Int)) = false := by simp; omega
              go_wp2_with (go_at_call 22; refine calls_same (HR.out _ HT2.out) ?_)
              go_roundw
              case rel => exact ⟨y + 1, by rw [e], rfl, by omega, by omega, trivial⟩
              case measure => simp [intOf]; omega
            · have d9 : decide (1 ≤ y) = false := by simp; omega
              go_wp2_with (go_at_call 22; refine calls_same (HR.out _ HT2.out) ?_)
              go_roundw
              case rel => exact ⟨y + 1, by rw [e], rfl, by omega, by omega, trivial⟩
              case measure => simp [intOf]; omega
      · have d8 : decide (y ≤ (q : Int) + 1) = false := by simp; omega
        rw [up_high (by omega)]
        clear HROW
        generalize (fl k q).length = L at *
        have b3 : ((L : Int) == (L : Int)) = true := by simp
        go_wp2
        go_ret
        exact ⟨rfl, HO2.out⟩
end Go.Proofs.YtoajgbgmiionpaaDoor
