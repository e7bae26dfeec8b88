import Derived.Test.YtjbbkeoolodeaaaGreatDoorG20
import Derived.Test.YtjbbkeoolodeaaaGreatDoorG24
import Derived.Test.YtjbbkeoolodeaaaGreatDoorG04
import Derived.Test.YtjbbkeoolodeaaaGreatDoorG07
import Derived.Test.YtjbbkeoolodeaaaGreatDoorG01
import Derived.Test.YtjbbkeoolodeaaaGreatDoorG05
import Derived.Test.YtjbbkeoolodeaaaGreatDoorG08
namespace Go.Proofs.YtjbbkeoolodeaaaGreatDoor
open Go.RowKit
set_option linter.unusedVariables false
set_option linter.unusedSimpArgs false

end Go.Proofs.YtjbbkeoolodeaaaGreatDoor
namespace Go.Proofs.YtjbbkeoolodeaaaGreatDoor
open Go.RowKit
set_option linter.unusedVariables false
set_option linter.unusedSimpArgs false

theorem ScrAt.mono {w : World} {b b' : Nat} {p : Option Addr} {os : List OpQ} (h : ScrAt w b p os) (hb : b ≤ b') : ScrAt w b' p os := by
  refine ⟨h.1, ?_⟩
  rcases h.2 with e | ⟨g, off, h1, h2, h3⟩
  · exact .inl e
  · refine .inr ⟨g, off, h1, by omega, fun j o hj => ?_⟩
    obtain ⟨x, lp, lc, c0, c1, c2, c3, c4, c5, c6⟩ := h3 j o hj
    refine ⟨x, lp, lc, c0, c1, c2, c3, c4, c5, c6.1, ?_⟩
    rcases c6.2 with e | ⟨g', off', k1, k2, k3⟩
    · exact .inl e
    · exact .inr ⟨g', off', k1, by omega, k3⟩
def fW (st : Sp) (j _i : Nat) : Int := st.W j
def fP (st : Sp) (j i : Nat) : Int := fld (st.S ((j * 3 + i) / 3)) ((j * 3 + i) % 3)
def fO (l : List (Nat × Blk)) (j i : Nat) : Int := if i = 0 then ((atB l j).1 : Int) else if i = 1 then (atB l j).2.1 else if i = 2 then (atB l j).2.2.1 else if i = 3 then (atB l j).2.2.2.1 else (atB l j).2.2.2.2
theorem bks_at : ∀ (l : List (Nat × Blk)) (j i : Nat), j < l.length → i < 5 → (bks l)[j * 5 + i]? = some (.int .i64 (fO l j i))
  | [], j, i, hj, _ => by simp at hj
  | q :: l, 0, i, _, hi => by
    have : i = 0 ∨ i = 1 ∨ i = 2 ∨ i = 3 ∨ i = 4 := by omega
    rcases this with rfl | rfl | rfl | rfl | rfl <;> rfl
  | q :: l, j + 1, i, hj, hi => by
    have ih := bks_at l j i (by simpa using hj) hi
    have e : fO (q :: l) (j + 1) i = fO l j i := by unfold fO atB; simp
    rw [bks_cons, e, show (j + 1) * 5 + i = (j * 5 + i) + 5 from by omega]
    simpa using ih
end Go.Proofs.YtjbbkeoolodeaaaGreatDoor
namespace Go.Proofs.YtjbbkeoolodeaaaGreatDoor
open Go.ChangeShapes Go.WideShapes Go.ChangeAt Go.RowKit
set_option linter.unusedVariables false
set_option linter.unusedSimpArgs false

theorem wordsV_step (j : Nat) (h : j < 7) : (j < 3 ∧ wordsV (j + 1 : Nat) = wordsV j + 2) ∨ (3 ≤ j ∧ j < 6 ∧ wordsV (j + 1 : Nat) = wordsV j + 4) ∨ (6 ≤ j ∧ wordsV (j + 1 : Nat) = wordsV j + 12) := by
  have hi : j = 0 ∨ j = 1 ∨ j = 2 ∨ j = 3 ∨ j = 4 ∨ j = 5 ∨ j = 6 := by omega
  rcases hi with rfl | rfl | rfl | rfl | rfl | rfl | rfl <;> decide
theorem wordsV_range (c : Int) : 0 ≤ wordsV c ∧ wordsV c ≤ 32 := by rcases class_told c with ⟨x, y, hx, hy, c0, c7, h⟩ | ⟨hx, hy, hc⟩ <;> omega
theorem blocksV_range (c : Int) : 0 ≤ blocksV c ∧ blocksV c ≤ 32 := by rcases class_told c with ⟨x, y, hx, hy, c0, c7, h⟩ | ⟨hx, hy, hc⟩ <;> omega
set_option maxHeartbeats 800000 in
theorem refWords_any (c : Int) (w : World) : Calls Tryz.prog 124 #[.int .i64 c] w fun e w' => e = .returned (.int .i64 (wordsV c)) ∧ w' = w := by
  by_cases hc : 0 ≤ c ∧ c < 8
  · obtain ⟨h1, h2⟩ := hc
    obtain ⟨k, rfl⟩ : ∃ k : Nat, c = k := ⟨c.toNat, by omega⟩
    have hk : k < 8 := by omega
    go_enter Tryz.func124, Tryz.ntmps124
    go_wp2
    go_loopw [3, 4] (fun n i wr => ∃ j : Nat, j ≤ k ∧ i = .int .i64 j ∧ n = .int .i64 (wordsV j) ∧ wr = w) (fun _ i _ => k - (intOf i).toNat)
    case atStart => exact ⟨0, by omega, by simp, by rfl, rfl⟩
    case round =>
      obtain ⟨j, hj, rfl, rfl, rfl⟩ := hrel
      by_cases hjk : j < k
      · have hjk' : (j : Int) < k := by omega
        have hr := wordsV_range j
        have hs := wordsV_step j (by omega)
        generalize hx : wordsV (j + 1 : Nat) = x' at hs
        generalize wordsV j = x at *
        obtain ⟨r1, r2⟩ := hr
        rcases hs with ⟨s1, s2⟩ | ⟨s1, s2, s3⟩ | ⟨s1, s2⟩
        all_goals
          go_wp2
          go_roundw
          case rel => exact ⟨j + 1, by omega, by simp, by rw [hx]; simp; omega, trivial⟩
          case measure => simp [intOf]; omega
      · have : j = k := by omega
        subst this
        go_wp2
        go_ret
        exact ⟨rfl, rfl⟩
  · have hc : c < 0 ∨ 8 ≤ c := by omega
    rw [wordsV_out hc]
    rcases hc with h | h
    all_goals
      go_enter Tryz.func124, Tryz.ntmps124
      go_wp2
      go_ret
      exact ⟨rfl, rfl⟩
theorem refWords_at (c v : Int) (h : wordsV c = v) (w : World) : Calls Tryz.prog 124 #[.int .i64 c] w fun e w' => e = .returned (.int .i64 v) ∧ w' = w := by
  rw [← h]; exact refWords_any c w
/-- as many as fit -/
theorem fit (c : Int) (x y : Int) (hx : wordsV c = x) (hy : blocksV c = y) (n : Nat) : 0 < x → (((n + 1 : Int) * x ≤ 64) ↔ (n : Int) < y) := by
  intro h0
  rcases class_told c with ⟨x', y', hx', hy', c0, c7, h⟩ | ⟨hx', hy', hc⟩
  · rw [hx] at hx'; rw [hy] at hy'; subst hx' hy'
    rcases h with ⟨_, rfl, rfl⟩ | ⟨_, rfl, rfl⟩ | ⟨_, rfl, rfl⟩ | ⟨_, rfl, rfl⟩ | ⟨_, rfl, rfl⟩ | ⟨_, rfl, rfl⟩ | ⟨_, rfl, rfl⟩ | ⟨_, rfl, rfl⟩ <;> omega
  · omega
theorem words_none {c : Int} (h : wordsV c = 0) : blocksV c = 0 := by rcases class_told c with ⟨x, y, hx, hy, c0, c7, h⟩ | ⟨hx, hy, hc⟩ <;> omega
set_option maxHeartbeats 800000 in
theorem refBlocks_any (c : Int) (w : World) : Calls Tryz.prog 114 #[.int .i64 c] w fun e w' => e = .returned (.int .i64 (blocksV c)) ∧ w' = w := by
  have H := hid_mk (refWords_at c _ rfl)
  have HF := hid_mk (fit c _ _ rfl rfl)
  have HN := hid_mk (words_none (c := c))
  obtain ⟨x1, x2⟩ := wordsV_range c
  obtain ⟨y1, y2⟩ := blocksV_range c
  generalize blocksV c = y at *
  generalize wordsV c = x at *
  go_enter Tryz.func114, Tryz.ntmps114
  go_wp2_with (go_at_call 124; refine calls_same (H.out _) ?_)
  go_loopw [4] (fun n wr => ∃ k : Nat, (k : Int) ≤ y ∧ n = .int .i64 k ∧ wr = w) (fun n _ => 32 - (intOf n).toNat)
  case atStart => exact ⟨0, by omega, by simp, rfl⟩
  case round =>
    obtain ⟨k, hk, rfl, rfl⟩ := hrel
    by_cases hx : x = 0
    · have hy := HN.out hx
      subst hx
      have : k = 0 := by omega
      subst this hy
      go_wp2
      go_ret
      exact ⟨rfl, rfl⟩
    · have hx0 : 0 < x := by omega
      have hf := HF.out k hx0
      have hp1 : 0 ≤ ((k : Int) + 1) * x := Int.mul_nonneg (by omega) x1
      have hp2 : ((k : Int) + 1) * x ≤ 33 * 32 := Int.mul_le_mul (by omega) x2 x1 (by omega)
      have hwr : wrap64 (((k : Int) + 1) * x) = ((k : Int) + 1) * x := by unfold wrap64; omega
      by_cases hky : (k : Int) < y
      · have hz := hf.2 hky
        go_wp2
        go_roundw
        case rel => exact ⟨k + 1, by omega, by simp, trivial⟩
        case measure => simp [intOf]; omega
      · have : y = k := by omega
        have hz : 64 < ((k : Int) + 1) * x := by have := fun h => hky (hf.1 h); omega
        subst this
        go_wp2
        go_ret
        exact ⟨rfl, rfl⟩
theorem refBlocks_at (c v : Int) (h : blocksV c = v) (w : World) : Calls Tryz.prog 114 #[.int .i64 c] w fun e w' => e = .returned (.int .i64 v) ∧ w' = w := by
  rw [← h]; exact refBlocks_any c w
set_option maxHeartbeats 800000 in
theorem refOf_any (s : Int) (w : World) : Calls Tryz.prog 108 #[.int .i64 s] w fun e w' => e = .returned (.int .i64 (ofV s)) ∧ w' = w := by
  by_cases hs : 1 ≤ s ∧ s ≤ 1024
  · obtain ⟨s1, s2⟩ := hs
    have HF := hid_mk (of_first s1 s2)
    obtain ⟨q1, q2⟩ := ofV_in s1 s2
    generalize ofV s = q at *
    go_enter Tryz.func108, Tryz.ntmps108
    go_wp2
    go_loopw [3] (fun i wr => ∃ k : Nat, (k : Int) ≤ q ∧ i = .int .i64 k ∧ wr = w) (fun i _ => 8 - (intOf i).toNat)
    case atStart => exact ⟨0, by omega, by simp, rfl⟩
    case round =>
      obtain ⟨k, hk, rfl, rfl⟩ := hrel
      by_cases hk8 : k < 8
      · have hf := HF.out k hk8
        have hk8' : (k : Int) < 8 := by omega
        have HW := hid_mk (refWords_at k _ rfl)
        generalize wordsV k = x at hf HW
        by_cases hx : x < s
        · have hkq := hf.1 hx
          go_wp2_with (go_at_call 124; refine calls_same (HW.out _) ?_)
          go_roundw
          case rel => exact ⟨k + 1, by omega, by simp, trivial⟩
          case measure => simp [intOf]; omega
        · have hx' : s ≤ x := by omega
          have hkq : q = k := by have := fun h => hx (hf.2 h); omega
          subst hkq
          go_wp2_with (go_at_call 124; refine calls_same (HW.out _) ?_)
          go_ret
          exact ⟨rfl, rfl⟩
      · have hkq : k = 8 := by omega
        have : q = 8 := by omega
        subst hkq this
        go_wp2
        go_ret
        exact ⟨rfl, rfl⟩
  · have hs : s < 1 ∨ 1024 < s := by omega
    rw [ofV_out hs]
    rcases hs with h | h
    all_goals
      go_enter Tryz.func108, Tryz.ntmps108
      go_wp2
      go_ret
      exact ⟨rfl, rfl⟩
theorem refOf_at (s v : Int) (h : ofV s = v) (w : World) : Calls Tryz.prog 108 #[.int .i64 s] w fun e w' => e = .returned (.int .i64 v) ∧ w' = w := by
  rw [← h]; exact refOf_any s w
set_option maxHeartbeats 800000 in
theorem refPages_any (s : Int) (w : World) : Calls Tryz.prog 110 #[.int .i64 s] w fun e w' => e = .returned (.int .i64 (pagesV s)) ∧ w' = w := by
  by_cases hs : 32 < s ∧ s ≤ 1024
  · have HO := hid_mk (refOf_at s 8 (ofV_eight.2 hs))
    have hp : pagesV s = (s + 63) / 64 := by unfold pagesV; rw [if_pos hs]
    rw [hp]
    obtain ⟨s1, s2⟩ := hs
    have HF : ∀ n : Nat, ((n : Int) * 64 < s ↔ (n : Int) < (s + 63) / 64) := by intro n; omega
    have hq : 0 ≤ (s + 63) / 64 ∧ (s + 63) / 64 ≤ 16 := by omega
    obtain ⟨q1, q2⟩ := hq
    have HF := hid_mk HF
    clear hp
    generalize (s + 63) / 64 = q at *
    go_enter Tryz.func110, Tryz.ntmps110
    go_wp2_with (go_at_call 108; refine calls_same (HO.out _) ?_)
    go_loopw [3] (fun i wr => ∃ k : Nat, (k : Int) ≤ q ∧ i = .int .i64 k ∧ wr = w) (fun i _ => 16 - (intOf i).toNat)
    case atStart => exact ⟨0, by omega, by simp, rfl⟩
    case round =>
      obtain ⟨k, hk, rfl, rfl⟩ := hrel
      have hf := HF.out k
      by_cases hx : (k : Int) < q
      · have hkq := hf.2 hx
        go_wp2
        go_roundw
        case rel => exact ⟨k + 1, by omega, by simp, trivial⟩
        case measure => simp [intOf]; omega
      · have hkq : q = k := by omega
        have hx' : s ≤ k * 64 := by have := fun h => hx (hf.1 h); omega
        subst hkq
        go_wp2
        go_ret
        exact ⟨rfl, rfl⟩
  · have hq : (ofV s != 8) = true := by simpa using fun h => hs (ofV_eight.1 h)
    have hp : pagesV s = 0 := by unfold pagesV; rw [if_neg hs]
    have HO := hid_mk (refOf_at s _ rfl)
    rw [hp]
    generalize ofV s = q at *
    clear hp
    go_enter Tryz.func110, Tryz.ntmps110
    go_wp2_with (go_at_call 108; refine calls_same (HO.out _) ?_)
    go_ret
    exact ⟨rfl, rfl⟩
theorem refStart_any (c i : Int) (w : World) : Calls Tryz.prog 115 #[.int .i64 c, .int .i64 i] w fun e w' => e = .returned (.int .i64 (startV c i)) ∧ w' = w := by
  obtain ⟨b2, b1⟩ := blocksV_range c
  have hw := wordsV_range c
  by_cases hi : 0 ≤ i ∧ i < blocksV c
  · obtain ⟨i1, i2⟩ := hi
    have hp1 : 0 ≤ i * wordsV c := Int.mul_nonneg i1 hw.1
    have hp2 : i * wordsV c ≤ 32 * 32 := Int.mul_le_mul (by omega) hw.2 hw.1 (by omega)
    have hs : startV c i = i * wordsV c := by unfold startV; rw [if_pos ⟨i1, i2⟩]
    rw [hs]
    have HB := hid_mk (refBlocks_at c _ rfl)
    have HW := hid_mk (refWords_at c _ rfl)
    clear hs hw
    generalize blocksV c = y at *
    generalize wordsV c = x at *
    have hwr : wrap64 (i * x) = i * x := by unfold wrap64; omega
    clear hp1 hp2
    go_enter Tryz.func115, Tryz.ntmps115
    go_wp2_with (first
      | (go_at_call 114; refine calls_same (HB.out _) ?_)
      | (go_at_call 124; refine calls_same (HW.out _) ?_))
    go_ret
    refine ⟨ret_int ?_, rfl⟩
    first | rfl | exact hwr
  · have hs : startV c i = -1 := by unfold startV; rw [if_neg hi]
    rw [hs]
    have HB := hid_mk (refBlocks_at c _ rfl)
    clear hs hw b1 b2
    generalize blocksV c = y at *
    have hi : i < 0 ∨ (0 ≤ i ∧ y ≤ i) := by omega
    rcases hi with h | ⟨h1, h2⟩
    all_goals
      go_enter Tryz.func115, Tryz.ntmps115
      go_wp2_with (go_at_call 114; refine calls_same (HB.out _) ?_)
      go_ret
      exact ⟨rfl, rfl⟩
end Go.Proofs.YtjbbkeoolodeaaaGreatDoor
namespace Go.Proofs.YtjbbkeoolodeaaaGreatDoor
open Go.ChangeShapes Go.WideShapes Go.ChangeAt Go.RowKit
set_option linter.unusedVariables false
set_option linter.unusedSimpArgs false

theorem refGood_any (a k n : Int) (w : World) : Calls Tryz.prog 138 #[.int .i64 a, .int .i64 k, .int .i64 n] w fun e w' => e = .returned (.bool (goodB a k n)) ∧ w' = w := by
  go_enter Tryz.func138, Tryz.ntmps138
  go_wp2
  all_goals go_ret
  all_goals refine ⟨ret_bool ?_, rfl⟩
  all_goals (unfold goodB; rw [Bool.eq_iff_iff]; simp; try omega)
theorem start_mod (x f : Int) : (0 + x * f) % 17592186044416 = x * f % 17592186044416 := by rw [Int.zero_add]
theorem mod_range (v : Int) : 0 ≤ v % 17592186044416 ∧ v % 17592186044416 < 17592186044416 := ⟨Int.emod_nonneg _ (by decide), Int.emod_lt_of_pos _ (by decide)⟩
theorem half (z : Int) (h : 0 ≤ z) (h2 : z < 17179869184) : wrap64 (z.tdiv 2) = z / 2 := by
  rw [Int.tdiv_eq_ediv_of_nonneg h]; exact wrap_in _ (by omega) (by omega)
theorem done (s d : Int) (x : Int) (h : (s + 0 * d) % 17592186044416 = x * 10872568911861 % 17592186044416) (s0 : 0 ≤ s) (s1 : s < 17592186044416) : s = signV x := by
  unfold signV
  rw [← h, Int.zero_mul, Int.add_zero, Int.emod_eq_of_lt s0 s1]
set_option maxHeartbeats 800000 in
theorem refSign_any (x : Int) (w : World) (h1 : 0 ≤ x) (h2 : x < 17179869184) : Calls Tryz.prog 139 #[.int .i64 x] w fun e w' => e = .returned (.int .i64 (signV x)) ∧ w' = w := by
  have X1 := hid_mk h1
  have X2 := hid_mk h2
  clear h1 h2
  have D := hid_mk (fun s d => done s d x)
  generalize signV x = r at *
  go_enter Tryz.func139, Tryz.ntmps139
  go_wp2
  go_loopw [0, 3, 4] (fun z s d wr => ∃ z' s' d' : Int, z = .int .i64 z' ∧ s = .int .i64 s' ∧ d = .int .i64 d' ∧ 0 ≤ z' ∧ Hid (z' < 17179869184) ∧ 0 ≤ s' ∧ s' < 17592186044416 ∧ 0 ≤ d' ∧ d' < 17592186044416 ∧ Hid ((s' + z' * d') % 17592186044416 = x * 10872568911861 % 17592186044416) ∧ wr = w) (fun z _ _ _ => (intOf z).toNat)
  case atStart => exact ⟨x, 0, 10872568911861, rfl, rfl, rfl, X1.out, X2, by decide, by decide, by decide, by decide, hid_mk (start_mod x _), rfl⟩
  case round =>
    clear X1 X2
    obtain ⟨z, s, d, rfl, rfl, rfl, z0, Z1, s0, s1, d0, d1, HJ, rfl⟩ := hrel
    by_cases hz : 0 < z
    · have hr1 : 0 ≤ z % 2 := by omega
      have hr2 : z % 2 < 2 := by omega
      have hh := half z z0 Z1.out
      have Z2 : Hid (0 ≤ z / 2 ∧ z / 2 < 17179869184 ∧ z / 2 < z) := hid_mk (by have := Z1.out; omega)
      have R1 := hid_mk (mod_range (d + d))
      by_cases ho : z % 2 = 1
      · have HK := hid_mk (sign_round HJ.out ho)
        have R2 := hid_mk (mod_range (s + d))
        clear HJ
        go_wp2
        go_roundw
        case rel =>
          rw [hh]
          exact ⟨_, _, _, rfl, rfl, rfl, Z2.out.1, hid_mk Z2.out.2.1, R2.out.1, R2.out.2, R1.out.1, R1.out.2, HK, trivial⟩
        case measure => have := Z2.out.2.2; rw [hh]; simp [intOf]; omega
      · have HK := hid_mk (sign_round0 HJ.out ho)
        clear HJ
        have ho' : (z % 2 == 1) = false := by simpa using ho
        go_wp2
        go_roundw
        case rel =>
          rw [hh]
          exact ⟨_, _, _, rfl, rfl, rfl, Z2.out.1, hid_mk Z2.out.2.1, s0, s1, R1.out.1, R1.out.2, HK, trivial⟩
        case measure => have := Z2.out.2.2; rw [hh]; simp [intOf]; omega
    · have hz0 : z = 0 := by omega
      subst hz0
      have he := D.out s d HJ.out s0 s1
      go_wp2
      go_ret
      exact ⟨rfl, rfl⟩
theorem refMake_any (a k n : Int) (w : World) : Calls Tryz.prog 103 #[.int .i64 a, .int .i64 k, .int .i64 n] w fun e w' => e = .returned (.int .i64 (makeV a k n)) ∧ w' = w := by
  have G := hid_mk (refGood_any a k n)
  by_cases h : HGood a k n
  · obtain ⟨x1, x2⟩ := x_range h
    obtain ⟨p1, p2⟩ := make_range a k n
    obtain ⟨q1, q2⟩ := sign_range (xV a k n)
    have hx := rfl (a := xV a k n)
    conv at hx => lhs; unfold xV
    have S := hid_mk (fun w => refSign_any (xV a k n) w x1 x2)
    rw [good_true h] at G
    have hm := make_good h
    generalize signV (xV a k n) = s at *
    generalize xV a k n = x at *
    generalize makeV a k n = r at *
    unfold HGood at h
    have e1 : wrap64 (a * 65536) = a * 65536 := wrap_in _ (by omega) (by omega)
    have e2 : wrap64 (k * 2048) = k * 2048 := wrap_in _ (by omega) (by omega)
    have e3 : wrap64 (a * 65536 + k * 2048) = a * 65536 + k * 2048 := wrap_in _ (by omega) (by omega)
    have e4 : wrap64 (a * 65536 + k * 2048 + n) = x := by rw [hx]; exact wrap_in _ (by omega) (by omega)
    have e5 : wrap64 (n * 32) = n * 32 := wrap_in _ (by omega) (by omega)
    have e6 : wrap64 (s * 65536) = s * 65536 := wrap_in _ (by omega) (by omega)
    have e7 : wrap64 (k + n * 32) = k + n * 32 := wrap_in _ (by omega) (by omega)
    have e8 : wrap64 (k + n * 32 + s * 65536) = k + n * 32 + s * 65536 := wrap_in _ (by omega) (by omega)
    have e9 : wrap64 ((k + n * 32 + s * 65536) * 8) = (k + n * 32 + s * 65536) * 8 := wrap_in _ (by omega) (by omega)
    have e10 : wrap64 ((k + n * 32 + s * 65536) * 8 + 5) = r := by rw [hm]; exact wrap_in _ (by omega) (by omega)
    clear h x1 x2 p1 p2 q1 q2 hx hm
    go_enter Tryz.func103, Tryz.ntmps103
    go_wp2_with (first
      | (go_at_call 138; refine calls_same (G.out _) ?_)
      | (go_at_call 139; refine calls_same (S.out _) ?_))
    go_ret
    exact ⟨ret_int (by first | rfl | assumption), rfl⟩
  · rw [make_bad h]
    rw [good_false h] at G
    clear h
    go_enter Tryz.func103, Tryz.ntmps103
    go_wp2_with (go_at_call 138; refine calls_same (G.out _) ?_)
    go_ret
    exact ⟨rfl, rfl⟩
end Go.Proofs.YtjbbkeoolodeaaaGreatDoor
namespace Go.Proofs.YtjbbkeoolodeaaaGreatDoor
open Go.RowKit
set_option linter.unusedVariables false
set_option linter.unusedSimpArgs false

end Go.Proofs.YtjbbkeoolodeaaaGreatDoor
namespace Go.Proofs.YtjbbkeoolodeaaaGreatDoor
open Go.RowKit
set_option linter.unusedVariables false
set_option linter.unusedSimpArgs false

end Go.Proofs.YtjbbkeoolodeaaaGreatDoor
namespace Go.Proofs.YtjbbkeoolodeaaaGreatDoor
open Go.RowKit
set_option linter.unusedVariables false
set_option linter.unusedSimpArgs false

/-! a copy of a list -/
end Go.Proofs.YtjbbkeoolodeaaaGreatDoor
namespace Go.Proofs.YtjbbkeoolodeaaaGreatDoor
open Go.RowKit
set_option linter.unusedVariables false
set_option linter.unusedSimpArgs false

def yints (l : List Nat) : List Value := l.map (fun (x : Nat) => Value.int .i64 (x : Int))
theorem yown_kept {w w' : World} {v : Value} {base k lo hi : Nat} {xs : List Value} {T : TypeId} (h : w.ownsRow base T 1 v k xs) (o : Out lo hi w w') (hd : hi ≤ base) : w'.ownsRow base T 1 v k xs := by
  obtain ⟨hlen, hcase⟩ := h
  refine ⟨hlen, ?_⟩
  rcases hcase with ⟨hv, h0⟩ | ⟨g, cap', cur, rfl, hg1, hg2, hg3⟩
  · exact .inl ⟨hv, h0⟩
  · exact .inr ⟨g, cap', cur, rfl, hg1, o.heap hg2 (.inr (by omega)), hg3⟩
/-- the list as an answer -/
def YListIs (w : World) (base : Nat) (v : Value) (l : List Nat) : Prop := w.ownsRow base 3 1 v l.length (yints l)
theorem YListIs.nil (w : World) (base : Nat) : YListIs w base (.slice none 0 0) [] := World.ownsRow_nil _ _ _ _
theorem YListIs.kept {w w' : World} {base lo hi : Nat} {v : Value} {l : List Nat} (h : YListIs w base v l) (o : Out lo hi w w') (hd : hi ≤ base) : YListIs w' base v l := yown_kept h o hd
end Go.Proofs.YtjbbkeoolodeaaaGreatDoor
namespace Go.Proofs.YtjbbkeoolodeaaaGreatDoor
open Go.RowKit
set_option linter.unusedVariables false
set_option linter.unusedSimpArgs false

end Go.Proofs.YtjbbkeoolodeaaaGreatDoor
namespace Go.Proofs.YtjbbkeoolodeaaaGreatDoor
open Go.RowKit
set_option linter.unusedVariables false
set_option linter.unusedSimpArgs false

end Go.Proofs.YtjbbkeoolodeaaaGreatDoor
namespace Go.Proofs.YtjbbkeoolodeaaaGreatDoor
open Go.RowKit
set_option linter.unusedVariables false
set_option linter.unusedSimpArgs false

end Go.Proofs.YtjbbkeoolodeaaaGreatDoor
namespace Go.Proofs.YtjbbkeoolodeaaaGreatDoor
open Go.RowKit
set_option linter.unusedVariables false
set_option linter.unusedSimpArgs false

/-- the cells of the list of objects: five for each place -/
def obC (st : Sp) (j : Nat) : Int :=
  if hasB (st.O (j / 5)) then (if j % 5 = 0 then ((j / 5 : Nat) : Int) else if j % 5 = 1 then (st.O (j / 5)).1 else if j % 5 = 2 then (st.O (j / 5)).2.1 else if j % 5 = 3 then (st.O (j / 5)).2.2.1 else (st.O (j / 5)).2.2.2) else 0
/-- the document's own space: 0 the struct, 1 its words, 2 its table, 3 the table's pages, 4 its objects -/
structure RfAt (w : World) (lo hi : Nat) (s : Nat → Nat) (n cw co : Nat) (st : Sp) : Prop where
  n1 : 1 ≤ n
  n2 : n ≤ 4096
  top : hi ≤ w.heap.size
  glob : 4 ≤ lo
  inn : ∀ i, i < 5 → lo ≤ s i ∧ s i < hi
  ne : ∀ i j, i < 5 → j < 5 → s i = s j → i = j
  box : w.heap[s 0]? = some (.cells #[.slice (some ⟨s 1, 0, none⟩) (64 * n) cw, .pointer (some ⟨s 2, 0, none⟩), .slice (some ⟨s 4, 0, none⟩) (64 * n) co, .int .i64 st.last] 66 (0, 0))
  rw : Row w (s 1) 3 (64 * n) (fun j => .int .i64 (st.W j))
  rt : TblAt 121 w (s 2) (s 3) n st.S
  ro : Row w (s 4) 92 (64 * n * 5) (fun j => .int .i64 (obC st j))
section
variable {w w' : World} {lo hi n cw co : Nat} {s : Nat → Nat} {st : Sp}
theorem RfAt.kept {x y : Nat} (h : RfAt w lo hi s n cw co st) (o : Out x y w w') (hd : hi ≤ x ∨ y ≤ lo) : RfAt w' lo hi s n cw co st :=
  have f : ∀ i, i < 5 → s i < x ∨ y ≤ s i := fun i hi => by have := h.inn i hi; omega
  ⟨h.n1, h.n2, Nat.le_trans h.top o.size, h.glob, h.inn, h.ne, o.heap h.box (f 0 (by omega)), h.rw.kept o (f 1 (by omega)), h.rt.kept o (f 2 (by omega)) (f 3 (by omega)), h.ro.kept o (f 4 (by omega))⟩
theorem RfAt.quiet (h : RfAt w lo hi s n cw co st) (o : Out 0 0 w w') : RfAt w' lo hi s n cw co st := h.kept o (.inr (Nat.zero_le _))
theorem RfAt.cells (h : RfAt w lo hi s n cw co st) : w.cell? ⟨s 0, 0, none⟩ = some (.slice (some ⟨s 1, 0, none⟩) (64 * n) cw) ∧ w.cell? ⟨s 0, 1, none⟩ = some (.pointer (some ⟨s 2, 0, none⟩)) ∧ w.cell? ⟨s 0, 2, none⟩ = some (.slice (some ⟨s 4, 0, none⟩) (64 * n) co) ∧ w.cell? ⟨s 0, 3, none⟩ = some (.int .i64 st.last) ∧ ∀ j, w.frozen? ⟨s 0, j, none⟩ = false := by
  refine ⟨?_, ?_, ?_, ?_, fun j => ?_⟩ <;> simp [World.cell?, World.frozen?, h.box]
/-- one word has changed -/
theorem RfAt.setW (h : RfAt w lo hi s n cw co st) {a : Nat} (ha : a < 64 * n) (x : Int) : RfAt (w.setCell ⟨s 1, a, none⟩ (.int .i64 x)) lo hi s n cw co { st with W := updW st.W a x } ∧ Out lo hi w (w.setCell ⟨s 1, a, none⟩ (.int .i64 x)) := by
  have o : Out (s 1) (s 1 + 1) w (w.setCell ⟨s 1, a, none⟩ (.int .i64 x)) := (Out.refl _ _ _).setCell (p := ⟨s 1, a, none⟩) (.inl ⟨Nat.le_refl _, Nat.lt_succ_self _⟩) _
  have h1 := h.inn 1 (by omega)
  have f : ∀ i, i < 5 → i ≠ 1 → s i < s 1 ∨ s 1 + 1 ≤ s i := fun i hi hne => by
    have : s i ≠ s 1 := fun e => hne (h.ne i 1 hi (by omega) e)
    omega
  refine ⟨⟨h.n1, h.n2, Nat.le_trans h.top o.size, h.glob, h.inn, h.ne, o.heap h.box (f 0 (by omega) (by omega)), ?_, h.rt.kept o (f 2 (by omega) (by omega)) (f 3 (by omega) (by omega)), h.ro.kept o (f 4 (by omega) (by omega))⟩, o.wide h1.1 (by omega)⟩
  refine (h.rw.set a (.int .i64 x)).congr fun j _ => ?_
  show (if j = a then _ else _) = Value.int .i64 (updW st.W a x j)
  unfold updW
  by_cases e : j = a
  · rw [if_pos e, if_pos e]
  · rw [if_neg e, if_neg e]
end
theorem refLink_any {x : Int} (h1 : -1 ≤ x) (h2 : x ≤ 262143) (w : World) : Calls Tryz.prog 74 #[.int .i64 x] w fun e w' => e = .returned (.int .i64 (linkV x)) ∧ w' = w := by
  have HL : Hid (linkV x = x * 8 + 4) := by show _ = _; unfold linkV nextB; rw [if_pos (by simp; omega)]
  go_enter Tryz.func74, Tryz.ntmps74
  go_wp2
  go_ret
  exact ⟨by rw [HL.out]; rfl, rfl⟩
set_option maxHeartbeats 2000000 in
theorem refRoom_any {z : Int} (z1 : 1 ≤ z) (z2 : z ≤ 1024) (w : World) : Calls Tryz.prog 76 #[.int .i64 z] w fun e w' => e = .returned (.int .i64 (roomN z : Int)) ∧ w' = w := by
  have HP := hid_mk (fun w => refPages_any z w)
  by_cases hz : z ≤ 32
  · have hp : pagesV z = 0 := by unfold pagesV; rw [if_neg (by omega)]
    have HO := hid_mk (fun w => refOf_any z w)
    have HW := hid_mk (fun w => refWords_any (ofV z) w)
    have hs := of_small z1 hz
    have hr : (roomN z : Int) = wordsV (ofV z) := by
      unfold roomN
      rw [if_neg (by omega)]
      unfold wN
      omega
    rw [hp] at HP
    rw [hr]
    clear hp hr hs z1 z2 hz
    go_enter Tryz.func76, Tryz.ntmps76
    go_wp2_with (first | (go_at_call 110; refine calls_same (HP.out _) ?_) | (go_at_call 108; refine calls_same (HO.out _) ?_) | (go_at_call 124; refine calls_same (HW.out _) ?_))
    go_ret
    exact ⟨rfl, rfl⟩
  · have hk := run_k (s := z) (by omega) z2
    obtain ⟨k, hkk⟩ : ∃ k, ((z + 63) / 64).toNat = k := ⟨_, rfl⟩
    rw [hkk] at hk
    have hp : pagesV z = (k : Int) := by unfold pagesV; rw [if_pos (by omega), hk.2.2]
    have hr : (roomN z : Int) = (k : Int) * 64 := by
      unfold roomN
      rw [if_pos (by omega), hkk]
      push_cast; rfl
    have k1 : (0 : Int) < (k : Int) := by omega
    have k2 : (k : Int) ≤ 16 := by omega
    rw [hp] at HP
    rw [hr]
    clear hp hr hk hkk z1 z2 hz
    go_enter Tryz.func76, Tryz.ntmps76
    go_wp2_with (go_at_call 110; refine calls_same (HP.out _) ?_)
    go_ret
    exact ⟨rfl, rfl⟩
end Go.Proofs.YtjbbkeoolodeaaaGreatDoor
namespace Go.Proofs.YtjbbkeoolodeaaaGreatDoor
open Go.RowKit
set_option linter.unusedVariables false
set_option linter.unusedSimpArgs false

theorem obC_kind (st : Sp) (a : Nat) : obC st (a * 5 + 1) = if hasB (st.O a) then (st.O a).1 else 0 := by
  unfold obC
  rw [show (a * 5 + 1) / 5 = a from by omega, show (a * 5 + 1) % 5 = 1 from by omega]
  rfl
section
variable {n : Nat} {st : Sp} {c : Int}
theorem nf_is {f a : Nat} (h1 : f ≤ a) (h2 : fr n st c a = true) (h3 : ∀ j, f ≤ j → j < a → fr n st c j = false) : nf n st c f = (a : Int) := by
  have ha := (fr_iff.1 h2).1
  unfold nf
  rcases nxr_cases (fr n st c) (64 * n) f with ⟨_, e⟩ | ⟨i, e, i1, i2, i3, i4⟩
  · rw [e a h1 ha] at h2; cases h2
  · have hfi := i2 (by omega)
    by_cases h : i < a
    · rw [h3 i hfi h] at i3; cases i3
    · by_cases h' : a < i
      · rw [i4 a h1 h'] at h2; cases h2
      · rw [e]; omega
theorem nf_no {f : Nat} (hf : f ≤ 64 * n) (h3 : ∀ j, f ≤ j → j < 64 * n → fr n st c j = false) : nf n st c f = -1 := by
  unfold nf
  rcases nxr_cases (fr n st c) (64 * n) f with ⟨e, _⟩ | ⟨i, e, i1, i2, i3, i4⟩
  · exact e
  · rw [h3 i (i2 hf) i1] at i3; cases i3
/-- in a page of another sort there is none -/
theorem fr_other {p j : Nat} (h : st.S p ≠ (1, c, 0)) (h1 : 64 * p ≤ j) (h2 : j < 64 * p + 64) : fr n st c j = false := by
  cases hf : fr n st c j with
  | false => rfl
  | true =>
    have := (fr_iff.1 hf).2.1
    rw [show j / 64 = p from by omega] at this
    exact absurd this h
/-- within a block, behind its first word, there is none -/
theorem fr_within (h0 : 0 ≤ c) (h7 : c ≤ 7) {p i j : Nat} (hi : (i + 1) * wN c ≤ 64) (h1 : 64 * p + i * wN c < j) (h2 : j < 64 * p + (i + 1) * wN c) : fr n st c j = false := by
  have hw := wN_pos h0 h7
  rw [Nat.add_mul] at h2 hi
  obtain ⟨q, hq⟩ : ∃ q, i * wN c = q := ⟨_, rfl⟩
  rw [hq] at h1 h2 hi
  cases hf : fr n st c j with
  | false => rfl
  | true =>
    obtain ⟨_, _, e, _⟩ := fr_iff.1 hf
    unfold startB at e
    simp only [Bool.and_eq_true, decide_eq_true_eq] at e
    obtain ⟨d, hd⟩ : ∃ d, j = 64 * p + q + d := ⟨j - (64 * p + q), by omega⟩
    subst hd
    rw [show (64 * p + q + d) % 64 = q + d from by omega, ← hq, Nat.mul_comm, Nat.mul_add_mod, Nat.mod_eq_of_lt (by omega)] at e
    omega
/-- behind a page's last block there is none -/
theorem fr_behind (h0 : 0 ≤ c) (h7 : c ≤ 7) {p i j : Nat} (hi : 64 < (i + 1) * wN c) (h1 : 64 * p + i * wN c ≤ j) (h2 : j < 64 * p + 64) : fr n st c j = false := by
  rw [Nat.add_mul] at hi
  cases hf : fr n st c j with
  | false => rfl
  | true =>
    obtain ⟨_, _, e, _⟩ := fr_iff.1 hf
    unfold startB at e
    simp only [Bool.and_eq_true, decide_eq_true_eq] at e
    omega
end
theorem cls_bz {c : Nat} (h : c < 8) : ∃ B z : Nat, blocksV (c : Int) = (B : Int) ∧ wordsV (c : Int) = (z : Int) ∧ wN (c : Int) = z ∧ 2 ≤ z ∧ z ≤ 32 ∧ 2 ≤ B ∧ B ≤ 32 ∧ B * z ≤ 64 ∧ 64 < (B + 1) * z := by
  have : c = 0 ∨ c = 1 ∨ c = 2 ∨ c = 3 ∨ c = 4 ∨ c = 5 ∨ c = 6 ∨ c = 7 := by omega
  rcases this with rfl | rfl | rfl | rfl | rfl | rfl | rfl | rfl
  · exact ⟨32, 2, rfl, rfl, rfl, by decide⟩
  · exact ⟨16, 4, rfl, rfl, rfl, by decide⟩
  · exact ⟨10, 6, rfl, rfl, rfl, by decide⟩
  · exact ⟨8, 8, rfl, rfl, rfl, by decide⟩
  · exact ⟨5, 12, rfl, rfl, rfl, by decide⟩
  · exact ⟨4, 16, rfl, rfl, rfl, by decide⟩
  · exact ⟨3, 20, rfl, rfl, rfl, by decide⟩
  · exact ⟨2, 32, rfl, rfl, rfl, by decide⟩
set_option maxRecDepth 100000 in
set_option maxHeartbeats 8000000 in
theorem refNext_any {w : World} {lo hi n cw co : Nat} {s : Nat → Nat} {st : Sp} (h : RfAt w lo hi s n cw co st) {c : Nat} (hc : c < 8) {f : Nat} (hf : f ≤ 64 * n) :
    Calls Tryz.prog 73 #[.pointer (some ⟨s 0, 0, none⟩), .int .i64 (c : Int), .int .i64 (f : Int)] w fun e w' => e = .returned (.int .i64 (nf n st (c : Int) f)) ∧ w' = w := by
  obtain ⟨c0, c1, c2, c3, _⟩ := h.cells
  obtain ⟨cap, d0, _⟩ := h.rt.cell
  have HPr := hid_mk h.rt.row
  have HGd := hid_mk h.rt.good
  have HRo := hid_mk h.ro
  have HN := hid_mk (And.intro h.n1 h.n2)
  obtain ⟨B, z, hB, hz, hzN, z1, z2, B1, B2, Bz1, Bz2⟩ := cls_bz hc
  have HBk := hid_mk (fun w => refBlocks_any (c : Int) w)
  have HSt := hid_mk (fun (i : Int) w => refStart_any (c : Int) i w)
  rw [hB] at HBk
  obtain ⟨M, hM⟩ : ∃ M, 64 * n = M := ⟨_, rfl⟩
  have hn := HN.out
  have f0 : (0 : Int) ≤ (f : Int) := by omega
  have f1 : ¬ (f : Int) < 0 := by omega
  have f2 : (f : Int) ≤ 262144 := by omega
  have n0 : (1 : Int) ≤ (n : Int) := by omega
  have n1 : (n : Int) ≤ 4096 := by omega
  obtain ⟨fp, hfp⟩ : ∃ fp, f / 64 = fp := ⟨_, rfl⟩
  have f3 : (f : Int) / 64 = (fp : Int) := by omega
  have B0 : (0 : Int) ≤ (B : Int) := by omega
  have B3 : (B : Int) ≤ 32 := by omega
  have cz : (0 : Int) ≤ (c : Int) := by omega
  have c7 : (c : Int) ≤ 7 := by omega
  have HF := hid_mk (And.intro hf (And.intro hfp (And.intro hB (And.intro hz (And.intro hzN (And.intro z1 (And.intro z2 (And.intro Bz1 (And.intro Bz2 hM)))))))))
  rw [hM] at c2
  have M1 : (M : Int) ≤ 262144 := by omega
  clear h hf hfp hB hz hzN z1 z2 Bz1 Bz2 hn B1 B2 c0 c3 hM
  go_enter Tryz.func73, Tryz.ntmps73
  go_wp2_with fail
  go_loopw [7] (fun u wr => ∃ p : Nat, u = .int .i64 (p : Int) ∧ fp ≤ p ∧ p ≤ n ∧ (∀ j, f ≤ j → j < 64 * p → fr n st (c : Int) j = false) ∧ wr = w) (fun u _ => n - (intOf u).toNat)
  case atStart => exact ⟨fp, rfl, Nat.le_refl _, by have := HF.out; omega, fun j h1 h2 => by have := HF.out.2.1; omega, rfl⟩
  case round =>
    obtain ⟨p, rfl, pa, pb, hno, hwr⟩ := hrel
    subst hwr
    have p0 : (0 : Int) ≤ (p : Int) := by omega
    by_cases hp : p < n
    · have p1 : (p : Int) < (n : Int) := by omega
      obtain ⟨e0, e1, _⟩ := HPr.out.cells hp
      obtain ⟨kd, hkd⟩ : ∃ kd, (st.S p).1 = kd := ⟨_, rfl⟩
      obtain ⟨cl, hcl⟩ : ∃ cl, (st.S p).2.1 = cl := ⟨_, rfl⟩
      rw [hkd] at e0
      rw [hcl] at e1
      have HNo := hid_mk hno
      clear hno
      by_cases hk : kd = 1 ∧ cl = (c : Int)
      · obtain ⟨rfl, rfl⟩ := hk
        have hS : st.S p = (1, (c : Int), 0) := by
          rcases HGd.out p hp with e | ⟨c', _, _, e⟩ | ⟨k, _, _, _, e, _⟩ | ⟨e, _⟩
          · rw [e] at hkd; cases hkd
          · rw [e] at hcl ⊢; rw [show c' = (c : Int) from hcl]
          · rw [e] at hkd; cases hkd
          · rw [e] at hkd; cases hkd
        have HSp := hid_mk hS
        clear hkd hcl hS
        go_wp2_with fail
        go_loopw [8] (fun u wq => ∃ i : Nat, u = .int .i64 (i : Int) ∧ i ≤ B ∧ (∀ j, f ≤ j → j < 64 * p + i * z → fr n st (c : Int) j = false) ∧ wq = wr) (fun u _ => B - (intOf u).toNat)
        case atStart => exact ⟨0, rfl, Nat.zero_le _, fun j h1 h2 => HNo.out j h1 (by omega), rfl⟩
        case round =>
          obtain ⟨i, rfl, ib, hno, hwq⟩ := hrel
          subst hwq
          have i0 : (0 : Int) ≤ (i : Int) := by omega
          have HNi := hid_mk hno
          clear hno
          by_cases hi' : i < B
          · have i1 : (i : Int) < (B : Int) := by omega
            have hF := HF.out
            have hle : (i + 1) * z ≤ B * z := Nat.mul_le_mul_right _ hi'
            have hst : startV (c : Int) (i : Int) = ((i * z : Nat) : Int) := by
              unfold startV
              rw [hF.2.2.1, if_pos ⟨by omega, by omega⟩, hF.2.2.2.1]; push_cast; rfl
            have HSi := hid_mk (fun w => HSt.out (i : Int) w)
            rw [hst] at HSi
            obtain ⟨q, hq⟩ : ∃ q, i * z = q := ⟨_, rfl⟩
            have hle2 : q + z ≤ 64 := by rw [Nat.add_mul] at hle; omega
            rw [hq] at HSi
            obtain ⟨a, ha⟩ : ∃ a, 64 * p + q = a := ⟨_, rfl⟩
            have q0 : (0 : Int) ≤ (q : Int) := by omega
            have q1 : (q : Int) ≤ 64 := by omega
            obtain ⟨P, hP⟩ : ∃ P, p * 64 = P := ⟨_, rfl⟩
            have P0 : (p : Int) * 64 = (P : Int) := by omega
            have P1 : (0 : Int) ≤ (P : Int) := by omega
            have P2 : (P : Int) ≤ 262144 := by omega
            have a0 : (P : Int) + (q : Int) = (a : Int) := by omega
            have a1 : (0 : Int) ≤ (a : Int) := by omega
            have aM : a < 64 * n := by omega
            have a2 : (a : Int) < (M : Int) := by omega
            have d5 := HRo.out.cell (i := a * 5 + 1) (by omega)
            rw [obC_kind] at d5
            have hst2 : startB (c : Int) (a % 64) = true := by
              unfold startB
              rw [hF.2.2.2.2.1, show a % 64 = q from by omega, ← hq]
              simp only [Bool.and_eq_true, decide_eq_true_eq]
              exact ⟨Nat.mul_mod_left _ _, by omega⟩
            have hfr : fr n st (c : Int) a = !hasB (st.O a) := by
              unfold fr
              rw [show a / 64 = p from by omega, HSp.out, hst2, show decide (a < 64 * n) = true from by simp; omega]
              simp
            have hnext : fr n st (c : Int) a = false ∨ a < f → ∀ j, f ≤ j → j < 64 * p + (i + 1) * z → fr n st (c : Int) j = false := fun hor j h1 h2 => by
              by_cases hj : j < 64 * p + i * z
              · exact HNi.out j h1 hj
              · by_cases he : j = a
                · rcases hor with hor | hor
                  · rw [he]; exact hor
                  · omega
                · exact fr_within cz c7 (p := p) (i := i) (by rw [hF.2.2.2.2.1, Nat.add_mul]; omega) (by rw [hF.2.2.2.2.1]; omega) (by rw [hF.2.2.2.2.1]; exact h2)
            have hfound : fr n st (c : Int) a = true → f ≤ a → nf n st (c : Int) f = (a : Int) := fun h1 h2 => nf_is h2 h1 fun j j1 j2 => HNi.out j j1 (by omega)
            have HX := hid_mk (And.intro hnext (And.intro hfound hfr))
            clear hle hst hq hle2 hP ha hst2 hfr hnext hfound hF aM
            by_cases hfa : (f : Int) ≤ (a : Int)
            · cases hb : hasB (st.O a) with
              | false =>
                rw [hb, if_neg (by simp)] at d5
                have hres := HX.out.2.1 (by rw [HX.out.2.2, hb]; rfl) (by omega)
                have HRes := hid_mk hres
                clear hb hres
                go_wp2_with (first | (go_at_call 114; refine calls_same (HBk.out _) ?_) | (go_at_call 115; refine calls_same (HSi.out _) ?_))
                go_ret
                exact ⟨by rw [HRes.out]; rfl, rfl⟩
              | true =>
                rw [hb, if_pos rfl] at d5
                obtain ⟨k5, hk5⟩ : ∃ k, (st.O a).1 = k := ⟨_, rfl⟩
                rw [hk5] at d5
                have hk0 : k5 ≠ 0 := by unfold hasB at hb; rw [hk5] at hb; simpa using hb
                have HNx := hid_mk (HX.out.1 (.inl (by rw [HX.out.2.2, hb]; rfl)))
                clear hb hk5
                go_wp2_with (first | (go_at_call 114; refine calls_same (HBk.out _) ?_) | (go_at_call 115; refine calls_same (HSi.out _) ?_))
                exact ⟨⟨i + 1, by congr 1, by omega, HNx.out, by trivial⟩, by simp [intOf] <;> omega⟩
            · have HNx := hid_mk (HX.out.1 (.inr (by omega)))
              clear d5
              go_wp2_with (first | (go_at_call 114; refine calls_same (HBk.out _) ?_) | (go_at_call 115; refine calls_same (HSi.out _) ?_))
              exact ⟨⟨i + 1, by congr 1, by omega, HNx.out, by trivial⟩, by simp [intOf] <;> omega⟩
          · have e : i = B := by omega
            subst e
            go_wp2_with (go_at_call 114; refine calls_same (HBk.out _) ?_)
            refine ⟨⟨p + 1, by congr 1, by omega, by omega, fun j h1 h2 => ?_, by trivial⟩, by simp [intOf] <;> omega⟩
            have hF := HF.out
            by_cases hj : j < 64 * p + i * z
            · exact HNi.out j h1 hj
            · exact fr_behind cz c7 (p := p) (i := i) (by rw [hF.2.2.2.2.1]; exact hF.2.2.2.2.2.2.2.2.1) (by rw [hF.2.2.2.2.1]; omega) (by omega)
      · have hne : st.S p ≠ (1, (c : Int), 0) := fun e => hk ⟨by rw [← hkd, e], by rw [← hcl, e]⟩
        have HNx : Hid (∀ j, f ≤ j → j < 64 * (p + 1) → fr n st (c : Int) j = false) := fun j h1 h2 => by
          by_cases hj : j < 64 * p
          · exact HNo.out j h1 hj
          · exact fr_other hne (by omega) (by omega)
        clear hne hkd hcl
        by_cases hk1 : kd = 1
        · have hk2 : cl ≠ (c : Int) := fun e => hk ⟨hk1, e⟩
          clear hk
          subst hk1
          go_wp2_with fail
          exact ⟨⟨p + 1, by congr 1, by omega, by omega, HNx.out, by trivial⟩, by simp [intOf] <;> omega⟩
        · clear hk
          go_wp2_with fail
          exact ⟨⟨p + 1, by congr 1, by omega, by omega, HNx.out, by trivial⟩, by simp [intOf] <;> omega⟩
    · have e : p = n := by omega
      subst e
      have hres := nf_no (n := p) (st := st) (c := (c : Int)) HF.out.1 hno
      have HRes := hid_mk hres
      clear hno hres
      go_wp2
      go_ret
      exact ⟨by rw [HRes.out]; rfl, rfl⟩
end Go.Proofs.YtjbbkeoolodeaaaGreatDoor
namespace Go.Proofs.YtjbbkeoolodeaaaGreatDoor
open Go.RowKit
set_option linter.unusedVariables false
set_option linter.unusedSimpArgs false

section
variable {w : World} {lo hi n cw co : Nat} {s : Nat → Nat} {st : Sp}
theorem obC_at {a : Nat} (hb : hasB (st.O a) = true) : obC st (a * 5) = (a : Int) ∧ obC st (a * 5 + 1) = (st.O a).1 ∧ obC st (a * 5 + 2) = (st.O a).2.1 ∧ obC st (a * 5 + 3) = (st.O a).2.2.1 ∧ obC st (a * 5 + 4) = (st.O a).2.2.2 := by
  unfold obC
  refine ⟨?_, ?_, ?_, ?_, ?_⟩
  · rw [show a * 5 / 5 = a from by omega, show a * 5 % 5 = 0 from by omega, hb]; rfl
  · rw [show (a * 5 + 1) / 5 = a from by omega, show (a * 5 + 1) % 5 = 1 from by omega, hb]; rfl
  · rw [show (a * 5 + 2) / 5 = a from by omega, show (a * 5 + 2) % 5 = 2 from by omega, hb]; rfl
  · rw [show (a * 5 + 3) / 5 = a from by omega, show (a * 5 + 3) % 5 = 3 from by omega, hb]; rfl
  · rw [show (a * 5 + 4) / 5 = a from by omega, show (a * 5 + 4) % 5 = 4 from by omega, hb]; rfl
set_option maxRecDepth 100000 in
set_option maxHeartbeats 2000000 in
theorem refBlock_some (h : RfAt w lo hi s n cw co st) {a : Nat} (ha : a < 64 * n) (hb : hasB (st.O a) = true) {k z x t : Int} (hO : st.O a = (k, z, x, t)) : Calls Tryz.prog 52 #[.pointer (some ⟨s 0, 0, none⟩), .int .i64 (a : Int)] w fun e w' => e = .returned (.tuple #[.agg #[.int .i64 (a : Int), .int .i64 k, .int .i64 z, .int .i64 x, .int .i64 t], .bool true]) ∧ Out 0 0 w w' := by
  have h' := h.quiet ((Out.refl 0 0 w).alloc (.cells #[.int .i64 0, .int .i64 0, .int .i64 0, .int .i64 0, .int .i64 0] 92))
  have h2 := h.n2
  obtain ⟨M, hM⟩ : ∃ M, 64 * n = M := ⟨_, rfl⟩
  have c2 := h'.cells.2.2.1
  rw [hM] at c2
  have a0 : (0 : Int) ≤ (a : Int) := by omega
  have a1 : (a : Int) < (M : Int) := by omega
  have a2 : (M : Int) ≤ 262144 := by omega
  obtain ⟨o0, o1, o2, o3, o4⟩ := obC_at (st := st) hb
  rw [hO] at o1 o2 o3 o4
  dsimp only at o1 o2 o3 o4
  have d0 := h'.ro.cell (i := a * 5) (by omega)
  have d1 := h'.ro.cell (i := a * 5 + 1) (by omega)
  have d2 := h'.ro.cell (i := a * 5 + 2) (by omega)
  have d3 := h'.ro.cell (i := a * 5 + 3) (by omega)
  have d4 := h'.ro.cell (i := a * 5 + 4) (by omega)
  rw [o0] at d0
  rw [o1] at d1
  rw [o2] at d2
  rw [o3] at d3
  rw [o4] at d4
  have hk : k ≠ 0 := by rw [hO] at hb; unfold hasB at hb; simpa using hb
  have hkb : (k == 0) = false := by simpa using hk
  have hne : s 4 ≠ w.heap.size := by have := h.inn 4 (by omega); have := h.top; omega
  clear h h' h2 hM hO hb o0 o1 o2 o3 o4 ha
  go_enter Tryz.func52, Tryz.ntmps52
  go_wp2
  refine retBlk2 (g := w.heap.size) Tryz.results52 rfl rfl rfl (heap_alloc_new _ _) ⟨rfl, (Out.refl _ _ _).alloc _⟩
set_option maxRecDepth 100000 in
set_option maxHeartbeats 2000000 in
theorem refBlock_none (h : RfAt w lo hi s n cw co st) {a : Int} (hno : ∀ k : Nat, a = (k : Int) → k < 64 * n → hasB (st.O k) = false) : Calls Tryz.prog 52 #[.pointer (some ⟨s 0, 0, none⟩), .int .i64 a] w fun e w' => e = .returned (.tuple #[.agg #[.int .i64 0, .int .i64 0, .int .i64 0, .int .i64 0, .int .i64 0], .bool false]) ∧ Out 0 0 w w' := by
  have h' := h.quiet ((Out.refl 0 0 w).alloc (.cells #[.int .i64 0, .int .i64 0, .int .i64 0, .int .i64 0, .int .i64 0] 92))
  have h2 := h.n2
  obtain ⟨M, hM⟩ : ∃ M, 64 * n = M := ⟨_, rfl⟩
  have c2 := h'.cells.2.2.1
  rw [hM] at c2
  have a2 : (M : Int) ≤ 262144 := by omega
  have a3 : (0 : Int) ≤ (M : Int) := by omega
  by_cases h0 : a < 0
  · clear h h' h2 hM hno
    go_enter Tryz.func52, Tryz.ntmps52
    go_wp2
    exact retBlk2 (g := w.heap.size) Tryz.results52 rfl rfl rfl (heap_alloc_new _ _) ⟨rfl, (Out.refl _ _ _).alloc _⟩
  · by_cases h1 : (M : Int) ≤ a
    · clear h h' h2 hM hno
      go_enter Tryz.func52, Tryz.ntmps52
      go_wp2
      exact retBlk2 (g := w.heap.size) Tryz.results52 rfl rfl rfl (heap_alloc_new _ _) ⟨rfl, (Out.refl _ _ _).alloc _⟩
    · obtain ⟨k, rfl⟩ : ∃ k : Nat, a = (k : Int) := ⟨a.toNat, by omega⟩
      have hb := hno k rfl (by omega)
      have d1 := h'.ro.cell (i := k * 5 + 1) (by omega)
      rw [obC_kind, hb, if_neg (by simp)] at d1
      have k0 : (0 : Int) ≤ (k : Int) := by omega
      have k1 : (k : Int) < (M : Int) := by omega
      clear h h' h2 hM hno hb h0 h1
      go_enter Tryz.func52, Tryz.ntmps52
      go_wp2
      exact retBlk2 (g := w.heap.size) Tryz.results52 rfl rfl rfl (heap_alloc_new _ _) ⟨rfl, (Out.refl _ _ _).alloc _⟩
end
end Go.Proofs.YtjbbkeoolodeaaaGreatDoor
namespace Go.Proofs.YtjbbkeoolodeaaaGreatDoor
open Go.RowKit
set_option linter.unusedVariables false
set_option linter.unusedSimpArgs false

end Go.Proofs.YtjbbkeoolodeaaaGreatDoor
