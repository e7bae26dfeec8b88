/- layout.Fits, Role -/
import Derived.Test.YtoajgbgmiionpaaDoorYc
namespace Go.Proofs.YtoajgbgmiionpaaDoor
open Go.RowKit
set_option linter.unusedVariables false
set_option linter.unusedSimpArgs false

theorem sizeB_iff {k n : Int} : sizeB k n = true ↔ knownB k = true ∧ 0 ≤ n ∧ n ≤ mo k ∧ (k ≠ 12 ∨ spineB n = true) := by
  unfold sizeB; simp [and_assoc]
theorem fitsB_iff {k s : Int} : fitsB k s = true ↔ knownB k = true ∧ wd k ≤ s ∧ s ≤ wd k + partW k (mo k) ∧ (k ≠ 12 ∨ spineB (s - 1) = true) := by
  unfold fitsB; simp [and_assoc]
theorem part_not4 {k n : Int} (h : k ≠ 4) : partW k n = n := by unfold partW; rw [if_neg h]
theorem part_4 {n : Int} : partW 4 n = (n + 7) / 8 := rfl
/-- there and back: any kind but a text -/
theorem fits_back {j : Nat} {s y : Int} (hk : knownB j = true) (j1 : 1 ≤ j) (j2 : j ≤ 13) (h4 : j ≠ 4) (s1 : -9223372036854775808 ≤ s) (s2 : s ≤ 9223372036854775807) (hy : wrap64 (s - wd j) = y) : (sizeB j y && (sizeV j y == s)) = fitsB j s := by
  obtain ⟨w1, w2, w3, w4, w5, w6, w7⟩ := wd_mo j1 j2
  have m := w5 h4
  rw [Bool.eq_iff_iff, Bool.and_eq_true, beq_iff_eq, fitsB_iff, part_not4 (by omega)]
  unfold wrap64 at hy
  constructor
  · rintro ⟨h, e⟩
    rw [size_good h, part_not4 (by omega)] at e
    obtain ⟨_, a, b, c⟩ := sizeB_iff.1 h
    refine ⟨hk, by omega, by omega, ?_⟩
    rcases c with c | c
    · exact .inl c
    · by_cases e12 : j = 12
      · have := (w7 e12).1
        rw [show s - 1 = y from by omega]; exact .inr c
      · exact .inl (by omega)
  · rintro ⟨_, a, b, c⟩
    have hys : y = s - wd j := by omega
    have h : sizeB j y = true := by
      refine sizeB_iff.2 ⟨hk, by omega, by omega, ?_⟩
      rcases c with c | c
      · exact .inl c
      · by_cases e12 : j = 12
        · have := (w7 e12).1
          rw [show y = s - 1 from by omega]; exact .inr c
        · exact .inl (by omega)
    refine ⟨h, ?_⟩
    rw [size_good h, part_not4 (by omega)]
    omega
/-- of a text -/
theorem fits_back4 {s y z : Int} (s1 : -9223372036854775808 ≤ s) (s2 : s ≤ 9223372036854775807) (hy : wrap64 (s - 2) = y) (hz : wrap64 (y * 8) = z) : (sizeB 4 z && (sizeV 4 z == s)) = fitsB 4 s := by
  have m : mo 4 = 4096 := rfl
  have m2 : wd 4 = 2 := rfl
  rw [Bool.eq_iff_iff, Bool.and_eq_true, beq_iff_eq, fitsB_iff, part_4, m, m2]
  unfold wrap64 at hy hz
  constructor
  · rintro ⟨h, e⟩
    rw [size_good h, part_4, m2] at e
    obtain ⟨_, a, b, c⟩ := sizeB_iff.1 h
    rw [m] at b
    exact ⟨rfl, by omega, by omega, .inl (by decide)⟩
  · rintro ⟨_, a, b, c⟩
    have hys : y = s - 2 := by omega
    have hzs : z = y * 8 := by omega
    have h : sizeB 4 z = true := sizeB_iff.2 ⟨rfl, by omega, by rw [m]; omega, .inl (by decide)⟩
    refine ⟨h, ?_⟩
    rw [size_good h, part_4, m2]
    omega
theorem and_of {a b c : Bool} (h : (a && b) = c) (ha : a = true) : b = c := by rw [← h, ha]; rfl
theorem and_off {a b c : Bool} (h : (a && b) = c) (ha : a = false) : c = false := by rw [← h, ha]; rfl
set_option maxHeartbeats 800000 in
theorem fits_any (k s : Int) {w : World} (hT : Tab w) (s1 : -9223372036854775808 ≤ s) (s2 : s ≤ 9223372036854775807) :
    Calls Tryd.prog 19 #[.int .i64 k, .int .i64 s] w fun e w' => e = .returned (.bool (fitsB k s)) ∧ w' = w := by
  have HK := hid_mk (known_any k)
  cases hk : knownB k
  · have hb : fitsB k s = false := by unfold fitsB; rw [hk]; rfl
    rw [hb]
    rw [hk] at HK
    clear hb hk s1 s2
    go_enter Tryd.func19, Tryd.ntmps19
    go_wp2_with (go_at_call 30; refine calls_same (HK.out _) ?_)
    go_ret
    exact ⟨rfl, rfl⟩
  · rw [hk] at HK
    obtain ⟨j, rfl, j1, j2⟩ := known_nat hk
    obtain ⟨c1, c2⟩ := hT j (by omega)
    have j0 : (0 : Int) ≤ (j : Int) := by omega
    have j14 : (j : Int) < 14 := by omega
    by_cases h4 : j = 4
    · subst h4
      rw [show ((4 : Nat) : Int) = 4 from rfl] at *
      rw [show wd 4 = 2 from rfl] at c1
      obtain ⟨y, hy⟩ : ∃ y, wrap64 (s - 2) = y := ⟨_, rfl⟩
      obtain ⟨z, hz⟩ : ∃ z, wrap64 (y * 8) = z := ⟨_, rfl⟩
      have E := fits_back4 s1 s2 hy hz
      have HS := hid_mk (size_any 4 z hT)
      generalize fitsB 4 s = f at *
      generalize sizeV 4 z = v at *
      clear s1 s2 hk j1 j2 c2
      cases hb : sizeB 4 z
      · rw [hb] at HS
        have := and_off E hb
        subst this
        clear E hb
        go_enter Tryd.func19, Tryd.ntmps19
        go_wp2_with (first | (go_at_call 30; refine calls_same (HK.out _) ?_) | (go_at_call 18; refine calls_same HS.out ?_))
        go_ret
        exact ⟨rfl, rfl⟩
      · rw [hb] at HS
        have := and_of E hb
        subst this
        clear E hb
        go_enter Tryd.func19, Tryd.ntmps19
        go_wp2_with (first | (go_at_call 30; refine calls_same (HK.out _) ?_) | (go_at_call 18; refine calls_same HS.out ?_))
        go_ret
        exact ⟨rfl, rfl⟩
    · have hj4 : ((j : Int) == 4) = false := by simp; omega
      obtain ⟨y, hy⟩ : ∃ y, wrap64 (s - wd j) = y := ⟨_, rfl⟩
      have E := fits_back hk j1 j2 h4 s1 s2 hy
      have HS := hid_mk (size_any j y hT)
      generalize fitsB j s = f at *
      generalize sizeV j y = v at *
      generalize wd j = x at *
      clear s1 s2 hk j1 j2 c2 h4
      cases hb : sizeB j y
      · rw [hb] at HS
        have := and_off E hb
        subst this
        clear E hb
        go_enter Tryd.func19, Tryd.ntmps19
        go_wp2_with (first | (go_at_call 30; refine calls_same (HK.out _) ?_) | (go_at_call 18; refine calls_same HS.out ?_))
        go_ret
        exact ⟨rfl, rfl⟩
      · rw [hb] at HS
        have := and_of E hb
        subst this
        clear E hb
        go_enter Tryd.func19, Tryd.ntmps19
        go_wp2_with (first | (go_at_call 30; refine calls_same (HK.out _) ?_) | (go_at_call 18; refine calls_same HS.out ?_))
        go_ret
        exact ⟨rfl, rfl⟩
theorem roles_any (k s i : Int) {w : World} (hT : Tab w) (s1 : -9223372036854775808 ≤ s) (s2 : s ≤ 9223372036854775807) :
    Calls Tryd.prog 22 #[.int .i64 k, .int .i64 s, .int .i64 i] w fun e w' => e = .returned (.int .i64 (roleV k s i)) ∧ w' = w := by
  have HF := hid_mk (fits_any k s hT s1 s2)
  have HR := hid_mk (role_any k i)
  clear s1 s2
  by_cases hi : 1 ≤ i
  · by_cases hs : i < s
    · cases hf : fitsB k s
      · have e : roleV k s i = 0 := by unfold roleV; rw [if_neg (by rw [hf]; simp)]
        rw [hf] at HF
        rw [e]
        clear e hf
        go_enter Tryd.func22, Tryd.ntmps22
        go_wp2_with (first | (go_at_call 19; refine calls_same HF.out ?_) | (go_at_call 28; refine calls_same (HR.out _) ?_))
        go_ret
        exact ⟨rfl, rfl⟩
      · have e : roleV k s i = roleW k i := by unfold roleV; rw [if_pos ⟨hf, hi, hs⟩]
        rw [hf] at HF
        rw [e]
        clear e hf
        generalize roleW k i = r at *
        go_enter Tryd.func22, Tryd.ntmps22
        go_wp2_with (first | (go_at_call 19; refine calls_same HF.out ?_) | (go_at_call 28; refine calls_same (HR.out _) ?_))
        go_ret
        exact ⟨rfl, rfl⟩
    · have e : roleV k s i = 0 := by unfold roleV; rw [if_neg (by omega)]
      rw [e]
      clear e
      go_enter Tryd.func22, Tryd.ntmps22
      go_wp2
      go_ret
      exact ⟨rfl, rfl⟩
  · have e : roleV k s i = 0 := by unfold roleV; rw [if_neg (by omega)]
    rw [e]
    clear e
    go_enter Tryd.func22, Tryd.ntmps22
    go_wp2
    go_ret
    exact ⟨rfl, rfl⟩
end Go.Proofs.YtoajgbgmiionpaaDoor
