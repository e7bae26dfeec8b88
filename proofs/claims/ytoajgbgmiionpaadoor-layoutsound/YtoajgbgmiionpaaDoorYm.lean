/- LayoutSound, sizes in the range -/
import Derived.Test.YtoajgbgmiionpaaDoorYl
namespace Go.Proofs.YtoajgbgmiionpaaDoor
open Go.RowKit
set_option linter.unusedVariables false
set_option linter.unusedSimpArgs false

theorem role_none {k s i : Int} (h : fitsB k s = false ∨ i < 1 ∨ s ≤ i) : roleV k s i = 0 := by
  unfold roleV
  rw [if_neg]
  rintro ⟨a, b, c⟩
  rcases h with h | h | h
  · rw [h] at a; cases a
  · omega
  · omega
theorem role_some {k s i : Int} (h : fitsB k s = true) (h1 : 1 ≤ i) (h2 : i < s) : roleV k s i = roleW k i ∧ 1 ≤ roleW k i ∧ roleW k i ≤ 9 := by
  obtain ⟨hk, _⟩ := fitsB_iff.1 h
  obtain ⟨j, rfl, j1, j2⟩ := known_nat hk
  exact ⟨by unfold roleV; rw [if_pos ⟨h, h1, h2⟩], role_range j1 j2⟩
def upTo (k : Int) (q : Nat) (y : Int) : Nat := (fl k (min y.toNat q)).length
theorem fl_zero (k : Int) : fl k 0 = [] := rfl
theorem up_low {k : Int} {q : Nat} {y : Int} (h : y ≤ 1) : upTo k q y = 0 := by
  unfold upTo
  have : min y.toNat q = 0 ∨ min y.toNat q = 1 := by omega
  rcases this with e | e <;> rw [e]
  · rw [fl_zero]; rfl
  · rw [fl_one]; rfl
theorem up_high {k : Int} {q : Nat} {y : Int} (h : (q : Int) ≤ y) : upTo k q y = (fl k q).length := by
  unfold upTo; rw [Nat.min_eq_right (by omega)]
theorem up_mid {k : Int} {q : Nat} {y : Int} (h : y ≤ q) : upTo k q y = (fl k y.toNat).length := by
  unfold upTo; rw [Nat.min_eq_left (by omega)]
theorem up_out {k : Int} {q : Nat} {y : Int} (h : y < 1 ∨ (q : Int) ≤ y) : upTo k q (y + 1) = upTo k q y := by
  rcases h with h | h
  · rw [up_low (by omega), up_low (by omega)]
  · rw [up_high (by omega), up_high h]
theorem up_one {k : Int} {q : Nat} {y : Int} (h1 : 1 ≤ y) (h2 : y < q) (hr : roleW k y = 1) : upTo k q (y + 1) = upTo k q y := by
  obtain ⟨p, rfl⟩ : ∃ p : Nat, y = p := ⟨y.toNat, by omega⟩
  rw [up_mid (by omega), up_mid (by omega), show ((p : Int) + 1).toNat = p + 1 from by omega, show ((p : Int)).toNat = p from by omega, fl_out hr]
theorem up_more {k : Int} {q : Nat} {y : Int} (h1 : 1 ≤ y) (h2 : y < q) (hr : roleW k y ≠ 1) : upTo k q (y + 1) = upTo k q y + 1 ∧ ∃ h : upTo k q y < (fl k q).length, (((fl k q)[upTo k q y] : Nat) : Int) = y := by
  obtain ⟨p, rfl⟩ : ∃ p : Nat, y = p := ⟨y.toNat, by omega⟩
  obtain ⟨a, b⟩ := fl_at (k := k) (show p < q by omega) (by omega) hr
  have e : upTo k q p = (fl k p).length := by rw [up_mid (by omega), show ((p : Int)).toNat = p from by omega]
  refine ⟨?_, by rw [e]; exact a, ?_⟩
  · rw [e, up_mid (by omega), show ((p : Int) + 1).toNat = p + 1 from by omega, fl_in (by omega) hr]; simp
  · have : (fl k q)[upTo k q p]? = some p := by rw [e, List.getElem?_eq_getElem a, b]
    rw [List.getElem?_eq_getElem (by rw [e]; exact a)] at this
    rw [Option.some.inj this]
set_option maxRecDepth 100000 in
set_option maxHeartbeats 8000000 in
theorem sound_no {k n n' : Int} {q : Nat} {b b' fv vb nb : Bool} {v v' : Int} {w : World} (H : Snd k n n' q b b' fv vb nb false v v' []) (hT : Tab w) (hf : fitsB k q = false) (hq : q ≤ 1100) (hn' : wrap64 (n - 1) = n')
    (VN : vb = false ∨ (vb = true ∧ nb = true)) (PRE : (b = false ∧ v = 0) ∨ (b = true ∧ fv = true ∧ Hid (1 ≤ v ∧ v ≤ 1024) ∧ decide (0 < v) = true ∧ decide (1024 < v) = false ∧ decide (v < 1) = false ∧ (b' = false ∨ (b' = true ∧ decide (0 < n) = false) ∨ (b' = true ∧ decide (0 < n) = true ∧ decide (v < v') = false)))) :
    Calls Tryd.prog 7 #[.int .i64 k, .int .i64 n, .int .i64 q] w fun e w' => e = .returned (.bool true) ∧ Out 0 0 w w' := by
  have HH := hid_mk H
  have HR := hid_mk (fun i w h => role_none (i := i) (.inl hf) ▸ H.role i w h)
  have HA := hid_mk (alive_any hT)
  have HT := hid_mk hT
  have d6 : decide ((q : Int) < 0) = false := by simp
  have d7 : decide (1100 < (q : Int)) = false := by simp; omega
  have q0 : (0 : Int) ≤ (q : Int) := by omega
  have q1 : (q : Int) ≤ 1100 := by omega
  clear hT H hf hq
  rcases VN with rfl | ⟨rfl, rfl⟩ <;> rcases PRE with ⟨rfl, rfl⟩ | ⟨rfl, rfl, Q, d1, d2, d3, rfl | ⟨rfl, d4⟩ | ⟨rfl, d4, d5⟩⟩
  all_goals
    go_enter Tryd.func7, Tryd.ntmps7
    go_wp2_with (first | (go_at_call_of 18 (Value.int IntKind.i64 n); refine calls_same (HH.out.size _ HT.out) ?_) | (go_at_call_of 18 (Value.int IntKind.i64 n'); refine calls_same (HH.out.size' _ HT.out) ?_) | (go_at_call 9; refine HA.out.mono ?_; rintro e w1 ⟨rfl, ho⟩; have HO := hid_mk ho; have HT1 := hid_mk (HT.out.quiet ho); clear ho) | (go_at_call_of 19 (Value.int IntKind.i64 (q : Int)); refine calls_same (HH.out.fit _ HT1.out) ?_) | (go_at_call_of 19 (Value.int IntKind.i64 v); refine calls_same (HH.out.fitv _ HT1.out Q.out) ?_) | (go_at_call 20; refine calls_same (HH.out.vis _) ?_) | (go_at_call 21; refine calls_same (HH.out.num _) ?_) | (go_at_call 13; refine (HH.out.fld _ HT1.out).mono ?_; rintro e w2 ⟨v2, rfl, hl, ho⟩; obtain ⟨aa, cp, rfl, hrow⟩ := hl.slice; have HROW := hid_mk hrow; have HO2 := hid_mk (HO.out.trans ho); have HT2 := hid_mk (HT1.out.quiet ho); clear ho hl hrow))
    go_loopw [13, 14] (fun a i wr => ∃ (y : Int), a = .int .i64 0 ∧ i = .int .i64 y ∧ -1 ≤ y ∧ y ≤ q + 2 ∧ wr = w2) (fun _ i _ => ((q : Int) + 2 - intOf i).toNat)
    case atStart => exact ⟨-1, rfl, rfl, by omega, by omega, rfl⟩
    case round =>
      obtain ⟨y, rfl, rfl, y1, y2, rfl⟩ := hrel
      by_cases hy : y ≤ (q : Int) + 1
      · have d8 : decide (y ≤ (q : Int) + 1) = true := by simpa using hy
        go_wp2_with (go_at_call 22; refine calls_same (HR.out _ _ HT2.out) ?_)
        go_roundw
        case rel => exact ⟨y + 1, rfl, rfl, by omega, by omega, trivial⟩
        case measure => simp [intOf]; omega
      · have d8 : decide (y ≤ (q : Int) + 1) = false := by simp; omega
        go_wp2
        go_ret
        exact ⟨rfl, HO2.out⟩
end Go.Proofs.YtoajgbgmiionpaaDoor
