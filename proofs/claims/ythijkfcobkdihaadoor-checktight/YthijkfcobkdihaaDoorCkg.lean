/- package check: the place of a number in a falling row -/
import Derived.Test.YthijkfcobkdihaaDoorCkf
namespace Go.Proofs.YthijkfcobkdihaaDoor
open Go.RowKit
set_option linter.unusedVariables false
set_option linter.unusedSimpArgs false

theorem nan_any (x : Int) (w : World) : Calls Tryd.prog 101 #[.int .i64 x] w fun e w' => e = .returned (.bool false) ∧ w' = w := by
  have h : (x != x) = false := by simp
  go_enter Tryd.func101, Tryd.ntmps101
  go_wp2
  go_ret
  exact ⟨rfl, rfl⟩
def cmV (x y : Int) : Int := if x < y then -1 else if y < x then 1 else 0
theorem cmp_any (x y : Int) (w : World) : Calls Tryd.prog 99 #[.int .i64 x, .int .i64 y] w fun e w' => e = .returned (.int .i64 (cmV x y)) ∧ w' = w := by
  by_cases h : x < y
  · have hd : decide (x < y) = true := by simpa using h
    rw [show cmV x y = -1 from if_pos h]
    clear h
    go_enter Tryd.func99, Tryd.ntmps99
    go_wp2_with (go_at_call 101; refine calls_same (nan_any _ _) ?_)
    go_ret
    exact ⟨rfl, rfl⟩
  · have hd : decide (x < y) = false := by simpa using h
    by_cases h2 : y < x
    · have hd2 : decide (y < x) = true := by simpa using h2
      rw [show cmV x y = 1 by unfold cmV; rw [if_neg h, if_pos h2]]
      clear h h2
      go_enter Tryd.func99, Tryd.ntmps99
      go_wp2_with (go_at_call 101; refine calls_same (nan_any _ _) ?_)
      go_ret
      exact ⟨rfl, rfl⟩
    · have hd2 : decide (y < x) = false := by simpa using h2
      rw [show cmV x y = 0 by unfold cmV; rw [if_neg h, if_neg h2]]
      clear h h2
      go_enter Tryd.func99, Tryd.ntmps99
      go_wp2_with (go_at_call 101; refine calls_same (nan_any _ _) ?_)
      go_ret
      exact ⟨rfl, rfl⟩
theorem fall_any (y x : Int) (w : World) : Calls Tryd.prog 98 #[.int .i64 y, .int .i64 x] w fun e w' => e = .returned (.int .i64 (cmV x y)) ∧ w' = w := by
  go_enter Tryd.func98, Tryd.ntmps98
  go_wp2_with (go_at_call 99; refine calls_same (cmp_any _ _ _) ?_)
  go_ret
  exact ⟨rfl, rfl⟩
theorem cm_neg {x y : Int} (h : x < y) : decide (cmV x y < 0) = true := by unfold cmV; rw [if_pos h]; rfl
theorem cm_pos {x y : Int} (h : y < x) : decide (cmV x y < 0) = false ∧ (cmV x y == 0) = false := by unfold cmV; rw [if_neg (by omega), if_pos h]; exact ⟨rfl, rfl⟩
/-- the middle of two places -/
theorem mid_any {i j : Nat} (hi : i < j) (hj : j ≤ 1000000) : wrap64 (IntKind.u64.wrap (wrap64 ((i : Int) + (j : Int))) / 2) = (((i + j) / 2 : Nat) : Int) := by
  have h0 : wrap64 ((i : Int) + (j : Int)) = (i : Int) + j := by unfold wrap64; omega
  rw [h0]
  have : IntKind.u64.wrap ((i : Int) + (j : Int)) = (i : Int) + j := by simp [IntKind.wrap, IntKind.signed, IntKind.bits]; omega
  rw [this]
  unfold wrap64
  omega
theorem up_w {h K : Nat} (hh : h < K) (hK : K ≤ 1000000) : wrap64 ((h : Int) + 1) = ((h + 1 : Nat) : Int) := by unfold wrap64; omega
theorem up_v {h K : Nat} (hh : h < K) (hK : K ≤ 1000000) : Value.int .i64 (wrap64 ((h : Int) + 1)) = .int .i64 ((h + 1 : Nat) : Int) := by rw [up_w hh hK]
theorem ms_1 {i h j : Nat} (h1 : i ≤ h) (h2 : h < j) : (intOf (.int .i64 (j : Int)) - intOf (.int .i64 ((h + 1 : Nat) : Int))).toNat < (intOf (.int .i64 (j : Int)) - intOf (.int .i64 (i : Int))).toNat := by simp [intOf]; omega
theorem ms_2 {i h j : Nat} (h1 : i ≤ h) (h2 : h < j) : (intOf (.int .i64 (h : Int)) - intOf (.int .i64 (i : Int))).toNat < (intOf (.int .i64 (j : Int)) - intOf (.int .i64 (i : Int))).toNat := by simp [intOf]; omega
/-- where x stands in a falling row -/
def FalAt (F : List Int) (x : Int) (p : Nat) : Prop := p ≤ F.length ∧ (∀ (j : Nat) y, F[j]? = some y → j < p → x < y) ∧ ∀ (j : Nat) y, F[j]? = some y → p ≤ j → y < x
set_option maxRecDepth 100000 in
set_option maxHeartbeats 1000000 in
theorem search_any {w : World} {K cap : Nat} {ta : Option Addr} {F : List Int} {x : Int} (hK : F.length = K) (hK2 : K ≤ 1000000) (hc : K = 0 ∨ ∃ q, ta = some ⟨q, 0, none⟩ ∧ ∀ (j : Nat) y, F[j]? = some y → w.cell? ⟨q, 0 + j, none⟩ = some (.int .i64 y)) (hs : F.Pairwise (fun a b => b < a)) (hx : x ∉ F) :
    Calls Tryd.prog 97 #[.slice ta K cap, .int .i64 x, .func (.func 98) #[] #[]] w fun e w' => ∃ p : Nat, e = .returned (.tuple #[.int .i64 p, .bool false]) ∧ FalAt F x p ∧ w' = w := by
  have HC := hid_mk hc
  have HS : Hid (∀ (i j : Nat) a b, F[i]? = some a → F[j]? = some b → i < j → b < a) := hid_mk fun i j a b ha hb hij => by
    obtain ⟨h1, h2⟩ := List.getElem?_eq_some_iff.1 ha
    obtain ⟨h3, h4⟩ := List.getElem?_eq_some_iff.1 hb
    rw [← h2, ← h4]
    exact List.pairwise_iff_getElem.1 hs i j h1 h3 hij
  have HX : Hid (∀ (j : Nat) y, F[j]? = some y → y ≠ x) := hid_mk fun j y hj e => hx (e ▸ List.mem_of_getElem? hj)
  have HK := hid_mk hK
  have HK2 := hid_mk hK2
  clear hc hs hx hK hK2
  go_enter Tryd.func97, Tryd.ntmps97
  go_wp2
  go_loopw [9, 10] (fun a b wr => ∃ i j : Nat, a = .int .i64 i ∧ b = .int .i64 j ∧ i ≤ j ∧ j ≤ K ∧ wr = w ∧ (∀ (m : Nat) y, F[m]? = some y → m < i → x < y) ∧ ∀ (m : Nat) y, F[m]? = some y → j ≤ m → y < x) (fun a b _ => (intOf b - intOf a).toNat)
  case atStart =>
    refine ⟨0, K, rfl, rfl, Nat.zero_le _, Nat.le_refl _, rfl, fun m y _ h => absurd h (Nat.not_lt_zero _), fun m y h h2 => ?_⟩
    have := (List.getElem?_eq_some_iff.1 h).1
    have := HK.out
    omega
  case round =>
    obtain ⟨i, j, rfl, rfl, hij, hjK, rfl, hlo, hhi⟩ := hrel
    have HLo := hid_mk hlo
    have HHi := hid_mk hhi
    clear hlo hhi
    by_cases hgo : i < j
    · have hd : decide ((i : Int) < (j : Int)) = true := by simp; omega
      have hd2 : decide (i < j) = true := by simp; omega
      obtain ⟨h, hh⟩ : ∃ h : Nat, (i + j) / 2 = h := ⟨_, rfl⟩
      have hm := mid_any hgo (by have := HK2.out; omega)
      rw [hh] at hm
      have hb1 : i ≤ h := by omega
      have hb2 : h < j := by omega
      obtain ⟨y, hy⟩ : ∃ y, F[h]? = some y := ⟨_, List.getElem?_eq_getElem (by have := HK.out; omega)⟩
      obtain ⟨q, rfl, hcq⟩ : ∃ q, ta = some ⟨q, 0, none⟩ ∧ ∀ (j : Nat) y, F[j]? = some y → wr.cell? ⟨q, 0 + j, none⟩ = some (.int .i64 y) := by
        rcases HC.out with c | c
        · omega
        · exact c
      have hc1 := hcq h y hy
      have hi2 : (h : Int) < (K : Int) := by omega
      have hi3 : h < K := by omega
      have HY := hid_mk hy
      have HB := hid_mk (And.intro hb1 hb2)
      have HJ := hid_mk (And.intro hjK hgo)
      rw [Nat.zero_add] at hc1
      clear hcq hy hh hb1 hb2 hjK hij hgo
      rcases Int.lt_trichotomy x y with hxy | hxy | hxy
      · have hn := cm_neg hxy
        have HXY := hid_mk hxy
        clear hxy
        have HH : Hid (h < K) := hid_mk hi3
        go_wp2_with (go_at_call 98; refine calls_same (fall_any _ _ _) ?_)
        go_roundw
        case rel =>
          have := HB.out
          have := HJ.out
          refine ⟨h + 1, j, up_v HH.out HK2.out, rfl, by omega, by omega, (by first | rfl | trivial), fun m z hz hmh => ?_, fun m z hz hmj => HHi.out m z hz hmj⟩
          by_cases hme : m = h
          · subst hme
            have := HY.out
            rw [hz] at this
            cases this
            exact HXY.out
          · have := HS.out m h z y hz HY.out (by omega)
            have := HXY.out
            omega
        case measure =>
          rw [up_w HH.out HK2.out]
          exact ms_1 HB.out.1 HB.out.2
      · exact absurd hxy.symm (HX.out h y HY.out)
      · have hn := (cm_pos hxy).1
        have HXY := hid_mk hxy
        clear hxy
        go_wp2_with (go_at_call 98; refine calls_same (fall_any _ _ _) ?_)
        go_roundw
        case rel =>
          have := HB.out
          have := HJ.out
          refine ⟨i, h, rfl, rfl, by omega, by omega, (by first | rfl | trivial), fun m z hz hmi => HLo.out m z hz hmi, fun m z hz hmh => ?_⟩
          by_cases hme : m = h
          · subst hme
            have := HY.out
            rw [hz] at this
            cases this
            exact HXY.out
          · have := HS.out h m y z HY.out hz (by omega)
            have := HXY.out
            omega
        case measure => exact ms_2 HB.out.1 HB.out.2
    · obtain rfl : i = j := by omega
      have hd : decide ((i : Int) < (i : Int)) = false := by simp
      have HP : Hid (FalAt F x i) := hid_mk ⟨by have := HK.out; omega, HLo.out, HHi.out⟩
      by_cases hiK : i < K
      · have he : decide ((i : Int) < (K : Int)) = true := by simp; omega
        have he2 : decide (i < K) = true := by simp; omega
        obtain ⟨y, hy⟩ : ∃ y, F[i]? = some y := ⟨_, List.getElem?_eq_getElem (by have := HK.out; omega)⟩
        obtain ⟨q, rfl, hcq⟩ : ∃ q, ta = some ⟨q, 0, none⟩ ∧ ∀ (j : Nat) y, F[j]? = some y → wr.cell? ⟨q, 0 + j, none⟩ = some (.int .i64 y) := by
          rcases HC.out with c | c
          · omega
          · exact c
        have hc1 := hcq i y hy
        have hi2 : (i : Int) < (K : Int) := by omega
        have hxy : y < x := HHi.out i y hy (Nat.le_refl _)
        have hn := (cm_pos hxy).2
        rw [Nat.zero_add] at hc1
        clear hcq hy hij hgo hjK
        go_wp2_with (go_at_call 98; refine calls_same (fall_any _ _ _) ?_)
        go_ret2
        exact ⟨i, rfl, HP.out, rfl⟩
      · have he : decide ((i : Int) < (K : Int)) = false := by simp; omega
        have he2 : decide (i < K) = false := by simp; omega
        clear hij hgo hjK
        go_wp2
        go_ret2
        exact ⟨i, rfl, HP.out, rfl⟩
end Go.Proofs.YthijkfcobkdihaaDoor
