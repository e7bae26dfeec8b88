/- each word by its tag -/
import Derived.Test.YtghgpnadikjblabVo
namespace Go.Proofs.Ytghgpnadikjblab
open Go.ChangeShapes Go.WideShapes Go.ChangeAt Go.RowKit
set_option linter.unusedVariables false
set_option linter.unusedSimpArgs false

set_option maxHeartbeats 4000000 in
theorem sorts_key (v t : Int) (w : World) (ok lk : Bool) (k n x : Int) (h7 : bits .and .i64 v 7 = t)
    (hr : ∀ w, Calls Try.prog 7 #[.int .i64 v] w fun e w' => e = .returned (.tuple #[.agg #[.int .i64 k, .int .i64 n], .bool ok]) ∧ Below w.heap.size w w')
    (hn : ∀ w, Calls Try.prog 11 #[.int .i64 v] w fun e w' => e = .returned (.tuple #[.int .i64 x, .bool lk]) ∧ w' = w)
    (hl : lk = true → x = v / 8 ∧ t = 4 ∧ ok = false ∧ linkV (v / 8) = v)
    (hk : ok = true → k = t + 1 ∧ n = v / 8)
    (hs : lk = false → (t = 0 ∧ ok = true) ∨ (t = 1 ∧ ok = decide (v / 8 ≥ 0)) ∨ (t = 2 ∧ ok = decide (v / 8 ≥ 0 ∧ v / 8 ≤ 5)) ∨ (t = 3 ∧ ok = decide (v / 8 ≥ 0 ∧ v / 8 ≤ 1114111 ∧ (v / 8 < 55296 ∨ v / 8 > 57343))) ∨ (t = 4 ∧ ok = false ∧ (v / 8 < -1 ∨ 262143 < v / 8)) ∨ (5 ≤ t ∧ t ≤ 7 ∧ ok = false)) :
    Calls Try.prog 5 #[.int .i64 v] w fun e w' => e = .returned (.bool true) ∧ Below w.heap.size w w' := by
  have HR := hid_mk hr
  have HN := hid_mk hn
  clear hr hn
  cases lk
  · have hs' := hs rfl
    clear hs hl
    rcases hs' with ⟨rfl, rfl⟩ | ⟨rfl, hok⟩ | ⟨rfl, hok⟩ | ⟨rfl, hok⟩ | ⟨rfl, rfl, h9⟩ | ⟨h5, h6, rfl⟩
    · obtain ⟨rfl, rfl⟩ := hk rfl
      clear hk
      go_enter Try.func5, Try.ntmps5
      go_wp2_with fail
      refine (HR.out _).mono ?_
      rintro e w1 ⟨rfl, hg⟩
      go_wp2_with fail
      refine calls_same (HN.out _) ?_
      have b1 := hg.alloc hg.size (.cells #[.int .i64 (0 + 1), .int .i64 (v / 8)] 23)
      have V1 := hid_mk (VC.new w1 (0 + 1) (v / 8))
      clear hg
      go_wp2_with fail
      refine (alive_any _).mono ?_
      rintro e w2 ⟨rfl, hg⟩
      have b2 := b1.trans (hg.mono b1.size)
      obtain ⟨x0, x1, x2, x3⟩ := (V1.out.kept hg).facts
      clear hg b1 V1
      go_wp2_with fail
      all_goals go_ret
      all_goals (refine ⟨?_, b2⟩; first | rfl | (simp; done) | (simp; omega))
    · by_cases hb : 0 ≤ v / 8
      · obtain rfl : ok = true := by rw [hok, decide_eq_true_eq]; omega
        obtain ⟨rfl, rfl⟩ := hk rfl
        clear hk hok
        go_enter Try.func5, Try.ntmps5
        go_wp2_with fail
        refine (HR.out _).mono ?_
        rintro e w1 ⟨rfl, hg⟩
        go_wp2_with fail
        refine calls_same (HN.out _) ?_
        have b1 := hg.alloc hg.size (.cells #[.int .i64 (1 + 1), .int .i64 (v / 8)] 23)
        have V1 := hid_mk (VC.new w1 (1 + 1) (v / 8))
        clear hg
        go_wp2_with fail
        refine (alive_any _).mono ?_
        rintro e w2 ⟨rfl, hg⟩
        have b2 := b1.trans (hg.mono b1.size)
        obtain ⟨x0, x1, x2, x3⟩ := (V1.out.kept hg).facts
        clear hg b1 V1
        go_wp2_with fail
        all_goals go_ret
        all_goals (refine ⟨?_, b2⟩; first | rfl | (simp; done) | (simp; omega))
      · have hb' : v / 8 < 0 := by omega
        clear hb
        obtain rfl : ok = false := by rw [hok, decide_eq_false_iff_not]; omega
        clear hk hok
        go_enter Try.func5, Try.ntmps5
        go_wp2_with fail
        refine (HR.out _).mono ?_
        rintro e w1 ⟨rfl, hg⟩
        go_wp2_with fail
        refine calls_same (HN.out _) ?_
        have b1 := hg.alloc hg.size (.cells #[.int .i64 k, .int .i64 n] 23)
        have V1 := hid_mk (VC.new w1 k n)
        clear hg
        go_wp2_with fail
        refine (alive_any _).mono ?_
        rintro e w2 ⟨rfl, hg⟩
        have b2 := b1.trans (hg.mono b1.size)
        obtain ⟨x0, x1, x2, x3⟩ := (V1.out.kept hg).facts
        clear hg b1 V1
        go_wp2_with fail
        all_goals go_ret
        all_goals (refine ⟨?_, b2⟩; first | rfl | (simp; done) | (simp; omega))
    · have c : v / 8 < 0 ∨ (0 ≤ v / 8 ∧ v / 8 ≤ 5) ∨ 5 < v / 8 := by omega
      rcases c with c | ⟨c, c'⟩ | c
      · obtain rfl : ok = false := by rw [hok, decide_eq_false_iff_not]; omega
        clear hk hok
        go_enter Try.func5, Try.ntmps5
        go_wp2_with fail
        refine (HR.out _).mono ?_
        rintro e w1 ⟨rfl, hg⟩
        go_wp2_with fail
        refine calls_same (HN.out _) ?_
        have b1 := hg.alloc hg.size (.cells #[.int .i64 k, .int .i64 n] 23)
        have V1 := hid_mk (VC.new w1 k n)
        clear hg
        go_wp2_with fail
        refine (alive_any _).mono ?_
        rintro e w2 ⟨rfl, hg⟩
        have b2 := b1.trans (hg.mono b1.size)
        obtain ⟨x0, x1, x2, x3⟩ := (V1.out.kept hg).facts
        clear hg b1 V1
        go_wp2_with fail
        all_goals go_ret
        all_goals (refine ⟨?_, b2⟩; first | rfl | (simp; done) | (simp; omega))
      · obtain rfl : ok = true := by rw [hok, decide_eq_true_eq]; omega
        obtain ⟨rfl, rfl⟩ := hk rfl
        clear hk hok
        go_enter Try.func5, Try.ntmps5
        go_wp2_with fail
        refine (HR.out _).mono ?_
        rintro e w1 ⟨rfl, hg⟩
        go_wp2_with fail
        refine calls_same (HN.out _) ?_
        have b1 := hg.alloc hg.size (.cells #[.int .i64 (2 + 1), .int .i64 (v / 8)] 23)
        have V1 := hid_mk (VC.new w1 (2 + 1) (v / 8))
        clear hg
        go_wp2_with fail
        refine (alive_any _).mono ?_
        rintro e w2 ⟨rfl, hg⟩
        have b2 := b1.trans (hg.mono b1.size)
        obtain ⟨x0, x1, x2, x3⟩ := (V1.out.kept hg).facts
        clear hg b1 V1
        go_wp2_with fail
        all_goals go_ret
        all_goals (refine ⟨?_, b2⟩; first | rfl | (simp; done) | (simp; omega))
      · have c0 : 0 ≤ v / 8 := by omega
        obtain rfl : ok = false := by rw [hok, decide_eq_false_iff_not]; omega
        clear hk hok
        go_enter Try.func5, Try.ntmps5
        go_wp2_with fail
        refine (HR.out _).mono ?_
        rintro e w1 ⟨rfl, hg⟩
        go_wp2_with fail
        refine calls_same (HN.out _) ?_
        have b1 := hg.alloc hg.size (.cells #[.int .i64 k, .int .i64 n] 23)
        have V1 := hid_mk (VC.new w1 k n)
        clear hg
        go_wp2_with fail
        refine (alive_any _).mono ?_
        rintro e w2 ⟨rfl, hg⟩
        have b2 := b1.trans (hg.mono b1.size)
        obtain ⟨x0, x1, x2, x3⟩ := (V1.out.kept hg).facts
        clear hg b1 V1
        go_wp2_with fail
        all_goals go_ret
        all_goals (refine ⟨?_, b2⟩; first | rfl | (simp; done) | (simp; omega))
    · have c : v / 8 < 0 ∨ (0 ≤ v / 8 ∧ v / 8 < 55296) ∨ (55296 ≤ v / 8 ∧ v / 8 ≤ 57343) ∨ (57343 < v / 8 ∧ v / 8 ≤ 1114111) ∨ 1114111 < v / 8 := by omega
      rcases c with c | ⟨c, c'⟩ | ⟨c, c'⟩ | ⟨c, c'⟩ | c
      · obtain rfl : ok = false := by rw [hok, decide_eq_false_iff_not]; omega
        clear hk hok
        go_enter Try.func5, Try.ntmps5
        go_wp2_with fail
        refine (HR.out _).mono ?_
        rintro e w1 ⟨rfl, hg⟩
        go_wp2_with fail
        refine calls_same (HN.out _) ?_
        have b1 := hg.alloc hg.size (.cells #[.int .i64 k, .int .i64 n] 23)
        have V1 := hid_mk (VC.new w1 k n)
        clear hg
        go_wp2_with fail
        refine (alive_any _).mono ?_
        rintro e w2 ⟨rfl, hg⟩
        have b2 := b1.trans (hg.mono b1.size)
        obtain ⟨x0, x1, x2, x3⟩ := (V1.out.kept hg).facts
        clear hg b1 V1
        go_wp2_with fail
        all_goals go_ret
        all_goals (refine ⟨?_, b2⟩; first | rfl | (simp; done) | (simp; omega))
      · have c0 : v / 8 ≤ 1114111 := by omega
        obtain rfl : ok = true := by rw [hok, decide_eq_true_eq]; omega
        obtain ⟨rfl, rfl⟩ := hk rfl
        clear hk hok
        go_enter Try.func5, Try.ntmps5
        go_wp2_with fail
        refine (HR.out _).mono ?_
        rintro e w1 ⟨rfl, hg⟩
        go_wp2_with fail
        refine calls_same (HN.out _) ?_
        have b1 := hg.alloc hg.size (.cells #[.int .i64 (3 + 1), .int .i64 (v / 8)] 23)
        have V1 := hid_mk (VC.new w1 (3 + 1) (v / 8))
        clear hg
        go_wp2_with fail
        refine (alive_any _).mono ?_
        rintro e w2 ⟨rfl, hg⟩
        have b2 := b1.trans (hg.mono b1.size)
        obtain ⟨x0, x1, x2, x3⟩ := (V1.out.kept hg).facts
        clear hg b1 V1
        go_wp2_with fail
        all_goals go_ret
        all_goals (refine ⟨?_, b2⟩; first | rfl | (simp; done) | (simp; omega))
      · have c0 : 0 ≤ v / 8 := by omega
        have c1 : v / 8 ≤ 1114111 := by omega
        obtain rfl : ok = false := by rw [hok, decide_eq_false_iff_not]; omega
        clear hk hok
        go_enter Try.func5, Try.ntmps5
        go_wp2_with fail
        refine (HR.out _).mono ?_
        rintro e w1 ⟨rfl, hg⟩
        go_wp2_with fail
        refine calls_same (HN.out _) ?_
        have b1 := hg.alloc hg.size (.cells #[.int .i64 k, .int .i64 n] 23)
        have V1 := hid_mk (VC.new w1 k n)
        clear hg
        go_wp2_with fail
        refine (alive_any _).mono ?_
        rintro e w2 ⟨rfl, hg⟩
        have b2 := b1.trans (hg.mono b1.size)
        obtain ⟨x0, x1, x2, x3⟩ := (V1.out.kept hg).facts
        clear hg b1 V1
        go_wp2_with fail
        all_goals go_ret
        all_goals (refine ⟨?_, b2⟩; first | rfl | (simp; done) | (simp; omega))
      · have c0 : 0 ≤ v / 8 := by omega
        have c1 : 55296 ≤ v / 8 := by omega
        obtain rfl : ok = true := by rw [hok, decide_eq_true_eq]; omega
        obtain ⟨rfl, rfl⟩ := hk rfl
        clear hk hok
        go_enter Try.func5, Try.ntmps5
        go_wp2_with fail
        refine (HR.out _).mono ?_
        rintro e w1 ⟨rfl, hg⟩
        go_wp2_with fail
        refine calls_same (HN.out _) ?_
        have b1 := hg.alloc hg.size (.cells #[.int .i64 (3 + 1), .int .i64 (v / 8)] 23)
        have V1 := hid_mk (VC.new w1 (3 + 1) (v / 8))
        clear hg
        go_wp2_with fail
        refine (alive_any _).mono ?_
        rintro e w2 ⟨rfl, hg⟩
        have b2 := b1.trans (hg.mono b1.size)
        obtain ⟨x0, x1, x2, x3⟩ := (V1.out.kept hg).facts
        clear hg b1 V1
        go_wp2_with fail
        all_goals go_ret
        all_goals (refine ⟨?_, b2⟩; first | rfl | (simp; done) | (simp; omega))
      · have c0 : 0 ≤ v / 8 := by omega
        obtain rfl : ok = false := by rw [hok, decide_eq_false_iff_not]; omega
        clear hk hok
        go_enter Try.func5, Try.ntmps5
        go_wp2_with fail
        refine (HR.out _).mono ?_
        rintro e w1 ⟨rfl, hg⟩
        go_wp2_with fail
        refine calls_same (HN.out _) ?_
        have b1 := hg.alloc hg.size (.cells #[.int .i64 k, .int .i64 n] 23)
        have V1 := hid_mk (VC.new w1 k n)
        clear hg
        go_wp2_with fail
        refine (alive_any _).mono ?_
        rintro e w2 ⟨rfl, hg⟩
        have b2 := b1.trans (hg.mono b1.size)
        obtain ⟨x0, x1, x2, x3⟩ := (V1.out.kept hg).facts
        clear hg b1 V1
        go_wp2_with fail
        all_goals go_ret
        all_goals (refine ⟨?_, b2⟩; first | rfl | (simp; done) | (simp; omega))
    · clear hk
      rcases h9 with h9 | h9
      · go_enter Try.func5, Try.ntmps5
        go_wp2_with fail
        refine (HR.out _).mono ?_
        rintro e w1 ⟨rfl, hg⟩
        go_wp2_with fail
        refine calls_same (HN.out _) ?_
        have b1 := hg.alloc hg.size (.cells #[.int .i64 k, .int .i64 n] 23)
        have V1 := hid_mk (VC.new w1 k n)
        clear hg
        go_wp2_with fail
        refine (alive_any _).mono ?_
        rintro e w2 ⟨rfl, hg⟩
        have b2 := b1.trans (hg.mono b1.size)
        obtain ⟨x0, x1, x2, x3⟩ := (V1.out.kept hg).facts
        clear hg b1 V1
        go_wp2_with fail
        all_goals go_ret
        all_goals (refine ⟨?_, b2⟩; first | rfl | (simp; done) | (simp; omega))
      · have c0 : -1 ≤ v / 8 := by omega
        go_enter Try.func5, Try.ntmps5
        go_wp2_with fail
        refine (HR.out _).mono ?_
        rintro e w1 ⟨rfl, hg⟩
        go_wp2_with fail
        refine calls_same (HN.out _) ?_
        have b1 := hg.alloc hg.size (.cells #[.int .i64 k, .int .i64 n] 23)
        have V1 := hid_mk (VC.new w1 k n)
        clear hg
        go_wp2_with fail
        refine (alive_any _).mono ?_
        rintro e w2 ⟨rfl, hg⟩
        have b2 := b1.trans (hg.mono b1.size)
        obtain ⟨x0, x1, x2, x3⟩ := (V1.out.kept hg).facts
        clear hg b1 V1
        go_wp2_with fail
        all_goals go_ret
        all_goals (refine ⟨?_, b2⟩; first | rfl | (simp; done) | (simp; omega))
    · clear hk
      obtain rfl | rfl | rfl : t = 5 ∨ t = 6 ∨ t = 7 := by omega
      · go_enter Try.func5, Try.ntmps5
        go_wp2_with fail
        refine (HR.out _).mono ?_
        rintro e w1 ⟨rfl, hg⟩
        go_wp2_with fail
        refine calls_same (HN.out _) ?_
        have b1 := hg.alloc hg.size (.cells #[.int .i64 k, .int .i64 n] 23)
        have V1 := hid_mk (VC.new w1 k n)
        clear hg
        go_wp2_with fail
        refine (alive_any _).mono ?_
        rintro e w2 ⟨rfl, hg⟩
        have b2 := b1.trans (hg.mono b1.size)
        obtain ⟨x0, x1, x2, x3⟩ := (V1.out.kept hg).facts
        clear hg b1 V1
        go_wp2_with fail
        all_goals go_ret
        all_goals (refine ⟨?_, b2⟩; first | rfl | (simp; done) | (simp; omega))
      · go_enter Try.func5, Try.ntmps5
        go_wp2_with fail
        refine (HR.out _).mono ?_
        rintro e w1 ⟨rfl, hg⟩
        go_wp2_with fail
        refine calls_same (HN.out _) ?_
        have b1 := hg.alloc hg.size (.cells #[.int .i64 k, .int .i64 n] 23)
        have V1 := hid_mk (VC.new w1 k n)
        clear hg
        go_wp2_with fail
        refine (alive_any _).mono ?_
        rintro e w2 ⟨rfl, hg⟩
        have b2 := b1.trans (hg.mono b1.size)
        obtain ⟨x0, x1, x2, x3⟩ := (V1.out.kept hg).facts
        clear hg b1 V1
        go_wp2_with fail
        all_goals go_ret
        all_goals (refine ⟨?_, b2⟩; first | rfl | (simp; done) | (simp; omega))
      · go_enter Try.func5, Try.ntmps5
        go_wp2_with fail
        refine (HR.out _).mono ?_
        rintro e w1 ⟨rfl, hg⟩
        go_wp2_with fail
        refine calls_same (HN.out _) ?_
        have b1 := hg.alloc hg.size (.cells #[.int .i64 k, .int .i64 n] 23)
        have V1 := hid_mk (VC.new w1 k n)
        clear hg
        go_wp2_with fail
        refine (alive_any _).mono ?_
        rintro e w2 ⟨rfl, hg⟩
        have b2 := b1.trans (hg.mono b1.size)
        obtain ⟨x0, x1, x2, x3⟩ := (V1.out.kept hg).facts
        clear hg b1 V1
        go_wp2_with fail
        all_goals go_ret
        all_goals (refine ⟨?_, b2⟩; first | rfl | (simp; done) | (simp; omega))
  · obtain ⟨rfl, rfl, rfl, e4⟩ := hl rfl
    clear hl hk hs
    go_enter Try.func5, Try.ntmps5
    go_wp2_with fail
    refine (HR.out _).mono ?_
    rintro e w1 ⟨rfl, hg⟩
    go_wp2_with fail
    refine calls_same (HN.out _) ?_
    have b1 := hg.alloc hg.size (.cells #[.int .i64 k, .int .i64 n] 23)
    have V1 := hid_mk (VC.new w1 k n)
    clear hg
    go_wp2_with fail
    refine (alive_any _).mono ?_
    rintro e w2 ⟨rfl, hg⟩
    have b2 := b1.trans (hg.mono b1.size)
    obtain ⟨x0, x1, x2, x3⟩ := (V1.out.kept hg).facts
    clear hg b1 V1
    go_wp2_with (go_at_call 12; refine calls_same (link_any _ _) ?_)
    all_goals go_ret
    all_goals (refine ⟨?_, b2⟩; first | rfl | (simp; done) | (simp; omega))
theorem sorts_any (v : Int) (w : World) (h1 : -9223372036854775808 ≤ v) (h2 : v ≤ 9223372036854775807) :
    Calls Try.prog 5 #[.int .i64 v] w fun e w' => e = .returned (.bool true) ∧ Below w.heap.size w w' := by
  refine sorts_key v (v % 8) w (validB (v % 8 + 1) (v / 8)) (isLink v) _ _ _ (and_seven v) (read_any v) (next_any v) ?_ ?_ ?_
  · intro h
    have e2 : nextV v = v / 8 := by unfold nextV; rw [if_pos h]
    unfold isLink at h
    rw [Bool.and_eq_true, decide_eq_true_eq] at h
    obtain ⟨e4, e5⟩ := h
    refine ⟨e2, e4, ?_, ?_⟩
    · rw [e4]; unfold validB; simp
    · unfold linkV; rw [if_pos e5]; omega
  · intro h
    unfold mkK mkN
    rw [if_pos h, if_pos h]
    exact ⟨rfl, rfl⟩
  · intro h
    have c : v % 8 = 0 ∨ v % 8 = 1 ∨ v % 8 = 2 ∨ v % 8 = 3 ∨ v % 8 = 4 ∨ (5 ≤ v % 8 ∧ v % 8 ≤ 7) := by omega
    rcases c with c | c | c | c | c | c
    · left
      refine ⟨c, ?_⟩
      rw [c]; unfold validB; rw [decide_eq_true_eq]; omega
    · right; left
      refine ⟨c, ?_⟩
      rw [c]; unfold validB; rw [Bool.eq_iff_iff, decide_eq_true_eq, decide_eq_true_eq]; omega
    · right; right; left
      refine ⟨c, ?_⟩
      rw [c]; unfold validB; rw [Bool.eq_iff_iff, decide_eq_true_eq, decide_eq_true_eq]; omega
    · right; right; right; left
      refine ⟨c, ?_⟩
      rw [c]; unfold validB; rw [Bool.eq_iff_iff, decide_eq_true_eq, decide_eq_true_eq]; omega
    · right; right; right; right; left
      refine ⟨c, ?_, ?_⟩
      · rw [c]; unfold validB; rw [decide_eq_false_iff_not]; omega
      · unfold isLink nextB at h
        rw [Bool.and_eq_false_iff, decide_eq_false_iff_not, decide_eq_false_iff_not] at h
        omega
    · right; right; right; right; right
      refine ⟨c.1, c.2, ?_⟩
      unfold validB; rw [decide_eq_false_iff_not]; omega
end Go.Proofs.Ytghgpnadikjblab
