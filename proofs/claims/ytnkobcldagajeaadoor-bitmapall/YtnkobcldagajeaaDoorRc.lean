/- the document's own map: CountRange, Next, Gap -/
import Derived.Test.YtnkobcldagajeaaDoorRb
import Derived.Test.YtnkobcldagajeaaDoorBe
namespace Go.Proofs.YtnkobcldagajeaaDoor
open Go.RowKit
set_option linter.unusedVariables false
set_option linter.unusedSimpArgs false

/-- what a number counts -/
def F3 (S : Nat → Bool) (a t : Int) : Nat → Bool := fun j => (decide (a.toNat ≤ j) && S j) && decide (j < t.toNat)
theorem F3_cnt (S : Nat → Bool) (a t : Int) (n : Nat) : cnt (F3 S a t) n = cntR S a.toNat (min t n).toNat := by
  unfold F3 cntR
  rw [cnt_cut, show min n t.toNat = (min t n).toNat from by omega]
theorem F3_yes {S : Nat → Bool} {a t : Int} {i : Nat} (h1 : S i = true) (h2 : a ≤ i) (h3 : (i : Int) < t) : cnt (F3 S a t) (i + 1) = cnt (F3 S a t) i + 1 := by
  have e : F3 S a t i = true := by
    have g1 : a.toNat ≤ i := by omega
    have g2 : i < t.toNat := by omega
    simp [F3, h1, g1, g2]
  show cnt (F3 S a t) i + (if F3 S a t i = true then 1 else 0) = _
  rw [if_pos e]
theorem F3_no {S : Nat → Bool} {a t : Int} {i : Nat} (h : S i = false ∨ (i : Int) < a ∨ t ≤ (i : Int)) : cnt (F3 S a t) (i + 1) = cnt (F3 S a t) i := by
  have e : F3 S a t i = false := by
    rcases h with h | h | h
    · simp [F3, h]
    · have g1 : ¬ a.toNat ≤ i := by omega
      simp [F3, g1]
    · have g2 : ¬ i < t.toNat := by omega
      simp [F3, g2]
  show cnt (F3 S a t) i + (if F3 S a t i = true then 1 else 0) = _
  rw [e]; rfl
set_option maxHeartbeats 1000000 in
theorem refCount_any {w : World} {lo hi b n : Nat} {S : Nat → Bool} (h : RefAt w lo hi b n S) (a t : Int) :
    Calls Tryd.prog 40 #[.pointer (some ⟨b, 0, none⟩), .int .i64 a, .int .i64 t] w fun e w' => e = .returned (.int .i64 (cntR S a.toNat (min t n).toNat)) ∧ w' = w := by
  rw [← F3_cnt]
  have HM := hid_mk h
  have HN := hid_mk h.bounds.2.2.2.1
  clear h
  go_enter Tryd.func40, Tryd.ntmps40
  go_wp2_with fail
  go_loop [7, 8] (fun x y => ∃ i : Nat, i ≤ n ∧ y = .int .i64 i ∧ x = .int .i64 (cnt (F3 S a t) i)) (fun _ y => n - (intOf y).toNat)
  case atStart => exact ⟨0, Nat.zero_le _, rfl, rfl⟩
  case round =>
    obtain ⟨i, g2, rfl, rfl⟩ := hrel
    have hc := cnt_le (F3 S a t) i
    have j3 : ((cnt (F3 S a t) i : Nat) : Int) ≤ (i : Int) := by omega
    clear hc
    by_cases hit : i < n
    · obtain ⟨br, cap', hb, c0, l1, l2, l3, hr⟩ := HM.out.words (by omega)
      have c1 := hr.cell hit
      have j1 : (0 : Int) ≤ (i : Int) := by omega
      have j2 : (i : Int) < (n : Int) := by omega
      obtain ⟨q, j4, j5⟩ : ∃ q : Int, (i : Int) < 64 * q ∧ q ≤ 4096 := ⟨4096, by have := HN.out; omega, by omega⟩
      clear hb hr l1 l2 l3
      cases hs : S i
      · rw [hs] at c1
        have HE := hid_mk (F3_no (a := a) (t := t) (.inl hs))
        clear hs
        go_wp2
        all_goals go_round
        case rel => exact ⟨i + 1, by omega, by go_num, by rw [HE.out]⟩
        case measure => simp [intOf]; omega
      · rw [hs] at c1
        by_cases ha : a ≤ i
        · by_cases ht : (i : Int) < t
          · have HE := hid_mk (F3_yes hs ha ht)
            clear hs
            go_wp2
            all_goals go_round
            case rel => exact ⟨i + 1, by omega, by go_num, by rw [HE.out]; go_num⟩
            case measure => simp [intOf]; omega
          · have HE := hid_mk (F3_no (S := S) (a := a) (t := t) (i := i) (.inr (.inr (by omega))))
            have ht' : t ≤ (i : Int) := by omega
            clear hs ht
            go_wp2
            all_goals go_round
            case rel => exact ⟨i + 1, by omega, by go_num, by rw [HE.out]⟩
            case measure => simp [intOf]; omega
        · have HE := hid_mk (F3_no (S := S) (a := a) (t := t) (i := i) (.inr (.inl (by omega))))
          have ha' : (i : Int) < a := by omega
          clear hs ha
          go_wp2
          all_goals go_round
          case rel => exact ⟨i + 1, by omega, by go_num, by rw [HE.out]⟩
          case measure => simp [intOf]; omega
    · obtain rfl : i = n := by omega
      obtain ⟨ao, cap, c0⟩ := HM.out.field
      go_wp2
      go_ret
      exact ⟨rfl, rfl⟩
set_option maxHeartbeats 1000000 in
theorem refNext_any {w : World} {lo hi b n : Nat} {S : Nat → Bool} (h : RefAt w lo hi b n S) (a : Int) :
    Calls Tryd.prog 41 #[.pointer (some ⟨b, 0, none⟩), .int .i64 a] w fun e w' => e = .returned (.int .i64 (nxr S n a.toNat)) ∧ w' = w := by
  have HM := hid_mk h
  have HN := hid_mk h.bounds.2.2.2.1
  clear h
  go_enter Tryd.func41, Tryd.ntmps41
  go_wp2_with fail
  go_loop [5] (fun y => ∃ i : Nat, i ≤ n ∧ y = .int .i64 i ∧ ∀ j, a.toNat ≤ j → j < i → S j = false) (fun y => n - (intOf y).toNat)
  case atStart => exact ⟨0, Nat.zero_le _, rfl, fun j _ hj => by omega⟩
  case round =>
    obtain ⟨i, g2, rfl, g3⟩ := hrel
    have G3 := hid_mk g3
    clear g3
    by_cases hit : i < n
    · obtain ⟨br, cap', hb, c0, l1, l2, l3, hr⟩ := HM.out.words (by omega)
      have c1 := hr.cell hit
      have j1 : (0 : Int) ≤ (i : Int) := by omega
      have j2 : (i : Int) < (n : Int) := by omega
      obtain ⟨q, j4, j5⟩ : ∃ q : Int, (i : Int) < 64 * q ∧ q ≤ 4096 := ⟨4096, by have := HN.out; omega, by omega⟩
      clear hb hr l1 l2 l3
      cases hs : S i
      · rw [hs] at c1
        have HS := hid_mk hs
        clear hs
        go_wp2
        all_goals go_round
        case rel => exact ⟨i + 1, by omega, by go_num, fun j h1 h2 => by
          by_cases e : j = i
          · subst e; exact HS.out
          · exact G3.out j h1 (by omega)⟩
        case measure => simp [intOf]; omega
      · rw [hs] at c1
        have HS := hid_mk hs
        clear hs
        by_cases ha : a ≤ i
        · go_wp2
          go_ret
          refine ⟨ret_int ?_, rfl⟩
          have e := nx_eq S n a.toNat i (by omega) g2 G3.out (fun _ => HS.out)
          unfold nxr
          rw [e, if_pos hit]
        · have ha' : (i : Int) < a := by omega
          clear ha
          go_wp2
          all_goals go_round
          case rel => exact ⟨i + 1, by omega, by go_num, fun j h1 h2 => G3.out j h1 (by omega)⟩
          case measure => simp [intOf]; omega
    · obtain rfl : i = n := by omega
      obtain ⟨ao, cap, c0⟩ := HM.out.field
      go_wp2
      go_ret
      refine ⟨ret_int ?_, rfl⟩
      have e : nx S i a.toNat = i := by
        by_cases hx : a.toNat ≤ i
        · exact nx_eq S i a.toNat i hx (Nat.le_refl _) G3.out (fun h => by omega)
        · exact nx_end _ _ _ (by omega)
      unfold nxr
      rw [e, if_neg (by omega)]
theorem refGap_no {w : World} {lo hi b n : Nat} {S : Nat → Bool} (h : RefAt w lo hi b n S) (a k : Int) (hk : k < 1) :
    Calls Tryd.prog 43 #[.pointer (some ⟨b, 0, none⟩), .int .i64 a, .int .i64 k] w fun e w' => e = .returned (.int .i64 (-1)) ∧ w' = w := by
  obtain ⟨ao, cap, c0⟩ := h.field
  clear h
  by_cases hn : 0 < (n : Int)
  · go_enter Tryd.func43, Tryd.ntmps43
    go_wp2_with fail
    go_loop [7, 8] (fun x y => x = .int .i64 0 ∧ y = .int .i64 0) (fun _ _ => 0)
    case atStart => exact ⟨rfl, rfl⟩
    case round =>
      obtain ⟨rfl, rfl⟩ := hrel
      go_wp2
      go_ret
      exact ⟨rfl, rfl⟩
  · obtain rfl : n = 0 := by omega
    go_enter Tryd.func43, Tryd.ntmps43
    go_wp2_with fail
    go_loop [7, 8] (fun x y => x = .int .i64 0 ∧ y = .int .i64 0) (fun _ _ => 0)
    case atStart => exact ⟨rfl, rfl⟩
    case round =>
      obtain ⟨rfl, rfl⟩ := hrel
      go_wp2
      go_ret
      exact ⟨rfl, rfl⟩
set_option maxHeartbeats 1000000 in
theorem refGap_yes {w : World} {lo hi b n : Nat} {S : Nat → Bool} (h : RefAt w lo hi b n S) (a k : Int) (hk : 1 ≤ k) :
    Calls Tryd.prog 43 #[.pointer (some ⟨b, 0, none⟩), .int .i64 a, .int .i64 k] w fun e w' => e = .returned (.int .i64 (nxr (runB S n k.toNat) n a.toNat)) ∧ w' = w := by
  have HM := hid_mk h
  have HN := hid_mk h.bounds.2.2.2.1
  clear h
  go_enter Tryd.func43, Tryd.ntmps43
  go_wp2_with fail
  go_loop [7, 8] (fun x y => ∃ i c : Nat, i ≤ n ∧ c ≤ i ∧ (c : Int) < k ∧ y = .int .i64 i ∧ x = .int .i64 c ∧ (∀ j, i - c ≤ j → j < i → S j = false ∧ a ≤ (j : Int)) ∧ ∀ s, a.toNat ≤ s → s < i - c → runB S n k.toNat s = false) (fun _ y => n - (intOf y).toNat)
  case atStart => exact ⟨0, 0, Nat.zero_le _, Nat.zero_le _, by omega, rfl, rfl, fun j _ hj => by omega, fun s _ hs => by omega⟩
  case round =>
    obtain ⟨i, c, g1, g2, g3, rfl, rfl, g4, g5⟩ := hrel
    have G4 := hid_mk g4
    have G5 := hid_mk g5
    have j6 : (c : Int) ≤ (i : Int) := by omega
    have j7 : (0 : Int) ≤ (c : Int) := by omega
    clear g4 g5
    by_cases hit : i < n
    · obtain ⟨br, cap', hb, c0, l1, l2, l3, hr⟩ := HM.out.words (by omega)
      have c1 := hr.cell hit
      have j1 : (0 : Int) ≤ (i : Int) := by omega
      have j2 : (i : Int) < (n : Int) := by omega
      obtain ⟨q, j4, j5⟩ : ∃ q : Int, (i : Int) < 64 * q ∧ q ≤ 4096 := ⟨4096, by have := HN.out; omega, by omega⟩
      clear hb hr l1 l2 l3
      by_cases ha : (i : Int) < a
      · clear c1
        go_wp2
        all_goals go_round
        case rel => exact ⟨i + 1, 0, by omega, by omega, by omega, by go_num, rfl, fun j _ hj => by omega, fun s h1 h2 => by omega⟩
        case measure => simp [intOf]; omega
      · have ha' : a ≤ (i : Int) := by omega
        clear ha
        cases hs : S i
        · rw [hs] at c1
          have HS := hid_mk hs
          clear hs
          have run : Hid (∀ j, i - c ≤ j → j < i + 1 → S j = false ∧ a ≤ (j : Int)) := fun j h1 h2 => by
            by_cases e : j = i
            · subst e; exact ⟨HS.out, ha'⟩
            · exact G4.out j h1 (by omega)
          by_cases hck : (c : Int) + 1 = k
          · have hck' : (((c : Int) + 1) == k) = true := by rw [beq_iff_eq]; exact hck
            have HK := hid_mk hck
            have j8 : k ≤ (i : Int) + 1 := by omega
            clear hck
            go_wp2
            go_ret
            refine ⟨ret_int ?_, rfl⟩
            have hk2 := HK.out
            have hr2 : runB S n k.toNat (i - c) = true := runB_of (by omega) fun j h1 h2 => (run.out j h1 (by omega)).1
            have ha2 : a ≤ ((i - c : Nat) : Int) := (run.out (i - c) (Nat.le_refl _) (by omega)).2
            have e := nx_eq (runB S n k.toNat) n a.toNat (i - c) (by omega) (by omega) G5.out (fun _ => hr2)
            unfold nxr
            rw [e, if_pos (by omega)]
            omega
          · have hck' : (((c : Int) + 1) == k) = false := by rw [beq_eq_false_iff_ne]; exact hck
            have HK := hid_mk hck
            clear hck
            go_wp2
            all_goals go_round
            case rel => exact ⟨i + 1, c + 1, by omega, by omega, by have := HK.out; omega, by go_num, by go_num, fun j h1 h2 => run.out j (by omega) h2, fun s h1 h2 => G5.out s h1 (by omega)⟩
            case measure => simp [intOf]; omega
        · rw [hs] at c1
          have HS := hid_mk hs
          clear hs
          go_wp2
          all_goals go_round
          case rel => exact ⟨i + 1, 0, by omega, by omega, by omega, by go_num, rfl, fun j _ hj => by omega, fun s h1 h2 => by
            by_cases e : s < i - c
            · exact G5.out s h1 e
            · exact runB_not (j := i) (by omega) (by omega) HS.out⟩
          case measure => simp [intOf]; omega
    · obtain rfl : i = n := by omega
      obtain ⟨ao, cap, c0⟩ := HM.out.field
      go_wp2
      go_ret
      refine ⟨ret_int ?_, rfl⟩
      rw [gap_none (st := i - c) (by omega) G5.out (by omega)]
theorem refGap_any {w : World} {lo hi b n : Nat} {S : Nat → Bool} (h : RefAt w lo hi b n S) (a k : Int) :
    Calls Tryd.prog 43 #[.pointer (some ⟨b, 0, none⟩), .int .i64 a, .int .i64 k] w fun e w' => e = .returned (.int .i64 (gapV S n a k)) ∧ w' = w := by
  unfold gapV
  by_cases hk : k < 1
  · rw [if_pos hk]; exact refGap_no h a k hk
  · rw [if_neg hk]; exact refGap_yes h a k (by omega)
end Go.Proofs.YtnkobcldagajeaaDoor
