/- header: contracts -/
import Derived.Test.YtpglpljeomfblaaHa
import Derived.OwnWalk
namespace Go.Proofs.Ytpglpljeomfblaa
open Go.ChangeShapes Go.WideShapes Go.ChangeAt Go.RowKit
set_option linter.unusedVariables false
set_option linter.unusedSimpArgs false

theorem good_any (a k n : Int) (w : World) : Calls Try.prog 16 #[.int .i64 a, .int .i64 k, .int .i64 n] w fun e w' => e = .returned (.bool (goodB a k n)) ∧ w' = w := by
  go_enter Try.func16, Try.ntmps16
  go_wp2
  all_goals go_ret
  all_goals refine ⟨ret_bool ?_, rfl⟩
  all_goals (unfold goodB; rw [Bool.eq_iff_iff]; simp; try omega)
theorem refGood_any (a k n : Int) (w : World) : Calls Try.prog 18 #[.int .i64 a, .int .i64 k, .int .i64 n] w fun e w' => e = .returned (.bool (goodB a k n)) ∧ w' = w := by
  go_enter Try.func18, Try.ntmps18
  go_wp2
  all_goals go_ret
  all_goals refine ⟨ret_bool ?_, rfl⟩
  all_goals (unfold goodB; rw [Bool.eq_iff_iff]; simp; try omega)
theorem sign_any (a k n : Int) (w : World) (h : Good a k n) : Calls Try.prog 17 #[.int .i64 a, .int .i64 k, .int .i64 n] w fun e w' => e = .returned (.int .i64 (signV (xV a k n))) ∧ w' = w := by
  have H := hid_mk (sign_eq h)
  clear h
  generalize signV (xV a k n) = s at *
  go_enter Try.func17, Try.ntmps17
  go_wp2
  go_ret
  exact ⟨ret_int H.out, rfl⟩
theorem make_any (a k n : Int) (w : World) : Calls Try.prog 10 #[.int .i64 a, .int .i64 k, .int .i64 n] w fun e w' => e = .returned (.int .i64 (makeV a k n)) ∧ w' = w := by
  have G := hid_mk (good_any a k n)
  by_cases h : Good a k n
  · have H := hid_mk (make_eq h)
    have S := hid_mk (fun w => sign_any a k n w h)
    rw [good_true h] at G
    clear h
    generalize makeV a k n = r at *
    generalize signV (xV a k n) = s at *
    go_enter Try.func10, Try.ntmps10
    go_wp2_with (first
      | (go_at_call 16; refine calls_same (G.out _) ?_)
      | (go_at_call 17; refine calls_same (S.out _) ?_))
    go_ret
    exact ⟨ret_int H.out, rfl⟩
  · rw [make_bad h]
    rw [good_false h] at G
    clear h
    go_enter Try.func10, Try.ntmps10
    go_wp2_with (go_at_call 16; refine calls_same (G.out _) ?_)
    go_ret
    exact ⟨rfl, rfl⟩
theorem ret3 {a b c d : Int} {p q : Bool} (h1 : a = c) (h2 : b = d) (h3 : p = q) : Ending.returned (.tuple #[.int .i64 a, .int .i64 b, .bool p]) = .returned (.tuple #[.int .i64 c, .int .i64 d, .bool q]) := by rw [h1, h2, h3]
theorem read_any (a v : Int) (w : World) : Calls Try.prog 14 #[.int .i64 a, .int .i64 v] w fun e w' => e = .returned (.tuple #[.int .i64 (readK a v), .int .i64 (readN a v), .bool (readB a v)]) ∧ w' = w := by
  have hk : bits .and .i64 (v / 8) 31 = kOf v := and_31 _
  have hn : bits .and .i64 (v / 8 / 32) 2047 = nOf v := by rw [and_2047]; unfold nOf; omega
  have M := hid_mk (make_any a (kOf v) (nOf v))
  have B := readB_true (a := a) (w := v)
  unfold readK readN
  generalize kOf v = k at *
  generalize nOf v = n at *
  generalize readB a v = r at *
  generalize makeV a k n = m at *
  by_cases h : v ≠ 0 ∧ v = m
  · have hr := B.2 h
    have h1 : (v == 0) = false := by simpa using h.1
    have h2 : (v != m) = false := by simpa using h.2
    subst hr
    clear B h
    rw [if_pos rfl, if_pos rfl]
    go_enter Try.func14, Try.ntmps14
    go_wp2_with (go_at_call 10; refine calls_same (M.out _) ?_)
    go_ret3
    exact ⟨rfl, rfl⟩
  · have hr : r = false := by simpa using fun q => h (B.1 q)
    subst hr
    clear B
    rw [if_neg (by simp), if_neg (by simp)]
    by_cases h0 : v = 0
    · have h1 : (v == 0) = true := by simpa using h0
      clear h h0
      go_enter Try.func14, Try.ntmps14
      go_wp2
      go_ret3
      exact ⟨rfl, rfl⟩
    · have h1 : (v == 0) = false := by simpa using h0
      have h2 : (v != m) = true := by simpa using fun q => h ⟨h0, q⟩
      clear h h0
      go_enter Try.func14, Try.ntmps14
      go_wp2_with (go_at_call 10; refine calls_same (M.out _) ?_)
      go_ret3
      exact ⟨rfl, rfl⟩
theorem start_mod (x f : Int) : (0 + x * f) % 17592186044416 = x * f % 17592186044416 := by rw [Int.zero_add]
theorem mod_range (v : Int) : 0 ≤ v % 17592186044416 ∧ v % 17592186044416 < 17592186044416 := ⟨Int.emod_nonneg _ (by decide), Int.emod_lt_of_pos _ (by decide)⟩
theorem half (z : Int) (h : 0 ≤ z) (h2 : z < 17179869184) : wrap64 (z.tdiv 2) = z / 2 := by
  rw [Int.tdiv_eq_ediv_of_nonneg h]; exact wrap_in _ (by omega) (by omega)
theorem done (s d : Int) (x : Int) (h : (s + 0 * d) % 17592186044416 = x * 10872568911861 % 17592186044416) (s0 : 0 ≤ s) (s1 : s < 17592186044416) : s = signV x := by
  unfold signV
  rw [← h, Int.zero_mul, Int.add_zero, Int.emod_eq_of_lt s0 s1]
set_option maxHeartbeats 800000 in
theorem refSign_any (x : Int) (w : World) (h1 : 0 ≤ x) (h2 : x < 17179869184) : Calls Try.prog 19 #[.int .i64 x] w fun e w' => e = .returned (.int .i64 (signV x)) ∧ w' = w := by
  have X1 := hid_mk h1
  have X2 := hid_mk h2
  clear h1 h2
  have D := hid_mk (fun s d => done s d x)
  generalize signV x = r at *
  go_enter Try.func19, Try.ntmps19
  go_wp2
  go_loopw [0, 3, 4] (fun z s d wr => ∃ z' s' d' : Int, z = .int .i64 z' ∧ s = .int .i64 s' ∧ d = .int .i64 d' ∧ 0 ≤ z' ∧ Hid (z' < 17179869184) ∧ 0 ≤ s' ∧ s' < 17592186044416 ∧ 0 ≤ d' ∧ d' < 17592186044416 ∧ Hid ((s' + z' * d') % 17592186044416 = x * 10872568911861 % 17592186044416) ∧ wr = w) (fun z _ _ _ => (intOf z).toNat)
  case atStart => exact ⟨x, 0, 10872568911861, rfl, rfl, rfl, X1.out, X2, by decide, by decide, by decide, by decide, hid_mk (start_mod x _), rfl⟩
  case round =>
    clear X1 X2
    obtain ⟨z, s, d, rfl, rfl, rfl, z0, Z1, s0, s1, d0, d1, HJ, rfl⟩ := hrel
    by_cases hz : 0 < z
    · have hr1 : 0 ≤ z % 2 := by omega
      have hr2 : z % 2 < 2 := by omega
      have hh := half z z0 Z1.out
      have Z2 : Hid (0 ≤ z / 2 ∧ z / 2 < 17179869184 ∧ z / 2 < z) := hid_mk (by have := Z1.out; omega)
      have R1 := hid_mk (mod_range (d + d))
      by_cases ho : z % 2 = 1
      · have HK := hid_mk (sign_round HJ.out ho)
        have R2 := hid_mk (mod_range (s + d))
        clear HJ
        go_wp2
        go_roundw
        case rel =>
          rw [hh]
          exact ⟨_, _, _, rfl, rfl, rfl, Z2.out.1, hid_mk Z2.out.2.1, R2.out.1, R2.out.2, R1.out.1, R1.out.2, HK, trivial⟩
        case measure => have := Z2.out.2.2; rw [hh]; simp [intOf]; omega
      · have HK := hid_mk (sign_round0 HJ.out ho)
        clear HJ
        have ho' : (z % 2 == 1) = false := by simpa using ho
        go_wp2
        go_roundw
        case rel =>
          rw [hh]
          exact ⟨_, _, _, rfl, rfl, rfl, Z2.out.1, hid_mk Z2.out.2.1, s0, s1, R1.out.1, R1.out.2, HK, trivial⟩
        case measure => have := Z2.out.2.2; rw [hh]; simp [intOf]; omega
    · have hz0 : z = 0 := by omega
      subst hz0
      have he := D.out s d HJ.out s0 s1
      go_wp2
      go_ret
      exact ⟨rfl, rfl⟩
theorem refMake_any (a k n : Int) (w : World) : Calls Try.prog 11 #[.int .i64 a, .int .i64 k, .int .i64 n] w fun e w' => e = .returned (.int .i64 (makeV a k n)) ∧ w' = w := by
  have G := hid_mk (refGood_any a k n)
  by_cases h : Good a k n
  · obtain ⟨x1, x2⟩ := x_range h
    obtain ⟨p1, p2⟩ := make_range a k n
    obtain ⟨q1, q2⟩ := sign_range (xV a k n)
    have hx := rfl (a := xV a k n)
    conv at hx => lhs; unfold xV
    have S := hid_mk (fun w => refSign_any (xV a k n) w x1 x2)
    rw [good_true h] at G
    have hm := make_good h
    generalize signV (xV a k n) = s at *
    generalize xV a k n = x at *
    generalize makeV a k n = r at *
    unfold Good at h
    have e1 : wrap64 (a * 65536) = a * 65536 := wrap_in _ (by omega) (by omega)
    have e2 : wrap64 (k * 2048) = k * 2048 := wrap_in _ (by omega) (by omega)
    have e3 : wrap64 (a * 65536 + k * 2048) = a * 65536 + k * 2048 := wrap_in _ (by omega) (by omega)
    have e4 : wrap64 (a * 65536 + k * 2048 + n) = x := by rw [hx]; exact wrap_in _ (by omega) (by omega)
    have e5 : wrap64 (n * 32) = n * 32 := wrap_in _ (by omega) (by omega)
    have e6 : wrap64 (s * 65536) = s * 65536 := wrap_in _ (by omega) (by omega)
    have e7 : wrap64 (k + n * 32) = k + n * 32 := wrap_in _ (by omega) (by omega)
    have e8 : wrap64 (k + n * 32 + s * 65536) = k + n * 32 + s * 65536 := wrap_in _ (by omega) (by omega)
    have e9 : wrap64 ((k + n * 32 + s * 65536) * 8) = (k + n * 32 + s * 65536) * 8 := wrap_in _ (by omega) (by omega)
    have e10 : wrap64 ((k + n * 32 + s * 65536) * 8 + 5) = r := by rw [hm]; exact wrap_in _ (by omega) (by omega)
    clear h x1 x2 p1 p2 q1 q2 hx hm
    go_enter Try.func11, Try.ntmps11
    go_wp2_with (first
      | (go_at_call 18; refine calls_same (G.out _) ?_)
      | (go_at_call 19; refine calls_same (S.out _) ?_))
    go_ret
    exact ⟨ret_int (by first | rfl | assumption), rfl⟩
  · rw [make_bad h]
    rw [good_false h] at G
    clear h
    go_enter Try.func11, Try.ntmps11
    go_wp2_with (go_at_call 18; refine calls_same (G.out _) ?_)
    go_ret
    exact ⟨rfl, rfl⟩
theorem read_split (a v : Int) (h0 : 0 ≤ v) (h5 : v % 8 = 5) : readB a v = true ↔ (Good a (kOf v) (nOf v) ∧ makeV a (kOf v) (nOf v) = v) := by
  constructor
  · intro h; exact ⟨read_good h, (readB_true.1 h).2.symm⟩
  · intro h; rw [readB_true]; exact ⟨by omega, h.2.symm⟩
theorem readK_false {a v : Int} (h : readB a v = false) : readK a v = 0 ∧ readN a v = 0 := by unfold readK readN; rw [h]; exact ⟨rfl, rfl⟩
theorem readK_true {a v : Int} (h : readB a v = true) : readK a v = kOf v ∧ readN a v = nOf v := by unfold readK readN; rw [h]; exact ⟨rfl, rfl⟩
set_option maxHeartbeats 800000 in
theorem refRead_any (a v : Int) (w : World) (v2 : v ≤ 9223372036854775807) : Calls Try.prog 20 #[.int .i64 a, .int .i64 v] w fun e w' => e = .returned (.tuple #[.int .i64 (readK a v), .int .i64 (readN a v), .bool (readB a v)]) ∧ w' = w := by
  by_cases hn : v < 0
  · have hr := read_none (a := a) (w := v) (.inl (by omega))
    obtain ⟨e1, e2⟩ := readK_false hr
    rw [hr, e1, e2]
    clear hr e1 e2
    go_enter Try.func20, Try.ntmps20
    go_wp2
    go_ret3
    exact ⟨rfl, rfl⟩
  have v0 : 0 ≤ v := by omega
  by_cases h5 : v % 8 = 5
  · have hk : v / 8 % 32 = kOf v := rfl
    have hs : v / 8 / 32 % 2048 = nOf v := by unfold nOf; omega
    have hw1 : wrap64 (v.tdiv 8) = v / 8 := by rw [Int.tdiv_eq_ediv_of_nonneg v0]; exact wrap_in _ (by omega) (by omega)
    have hw2 : wrap64 ((v / 8).tdiv 32) = v / 8 / 32 := by rw [Int.tdiv_eq_ediv_of_nonneg (by omega)]; exact wrap_in _ (by omega) (by omega)
    have hq0 : 0 ≤ v / 8 := by omega
    have hq1 : 0 ≤ v / 8 / 32 := by omega
    have hm0 : (v % 8 != 5) = false := by rw [h5]; rfl
    have G := hid_mk (refGood_any a (kOf v) (nOf v))
    have M := hid_mk (refMake_any a (kOf v) (nOf v))
    have B := read_split a v v0 h5
    have T := hid_mk (readK_true (a := a) (v := v))
    have F := hid_mk (readK_false (a := a) (v := v))
    clear hn v2 h5
    generalize kOf v = k at *
    generalize nOf v = n at *
    generalize readK a v = rk at *
    generalize readN a v = rn at *
    generalize readB a v = r at *
    generalize makeV a k n = m at *
    by_cases g : Good a k n
    · rw [good_true g] at G
      by_cases e : m = v
      · have hr := B.2 ⟨g, e⟩
        subst hr
        obtain ⟨t1, t2⟩ := T.out rfl
        have h2 : (m != v) = false := by simpa using e
        subst t1 t2
        clear B T F g e
        go_enter Try.func20, Try.ntmps20
        go_wp2_with (first
          | (go_at_call 18; refine calls_same (G.out _) ?_)
          | (go_at_call 11; refine calls_same (M.out _) ?_))
        go_ret3
        exact ⟨rfl, rfl⟩
      · have hr : r = false := by simpa using fun q => e (B.1 q).2
        subst hr
        obtain ⟨t1, t2⟩ := F.out rfl
        have h2 : (m != v) = true := by simpa using e
        subst t1 t2
        clear B T F g e
        go_enter Try.func20, Try.ntmps20
        go_wp2_with (first
          | (go_at_call 18; refine calls_same (G.out _) ?_)
          | (go_at_call 11; refine calls_same (M.out _) ?_))
        go_ret3
        exact ⟨rfl, rfl⟩
    · rw [good_false g] at G
      have hr : r = false := by simpa using fun q => g (B.1 q).1
      subst hr
      obtain ⟨t1, t2⟩ := F.out rfl
      subst t1 t2
      clear B T F g
      go_enter Try.func20, Try.ntmps20
      go_wp2_with (go_at_call 18; refine calls_same (G.out _) ?_)
      go_ret3
      exact ⟨rfl, rfl⟩
  · have hr := read_none (a := a) (w := v) (.inr h5)
    obtain ⟨e1, e2⟩ := readK_false hr
    have hm0 : (v % 8 != 5) = true := by simpa using h5
    rw [hr, e1, e2]
    clear hr e1 e2 h5 hn v2
    go_enter Try.func20, Try.ntmps20
    go_wp2
    go_ret3
    exact ⟨rfl, rfl⟩
end Go.Proofs.Ytpglpljeomfblaa
