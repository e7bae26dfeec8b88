/- hash: HashOf, HashDoubles -/
import Derived.Test.YtjboogfbdgbfbaaOd
namespace Go.Proofs.Ytjboogfbdgbfbaa
open Go.ChangeShapes Go.WideShapes Go.ChangeAt Go.RowKit Go.Deep
set_option linter.unusedVariables false
set_option linter.unusedSimpArgs false

theorem VC.frozen {W : World} {g : Nat} {k n : Int} (h : VC W g k n) : W.frozen? ⟨g, 0, none⟩ = false ∧ W.frozen? ⟨g, 1, none⟩ = false := by
  unfold VC at h
  constructor <;> simp [World.frozen?, h]
theorem VC.set {W : World} {g : Nat} {k n : Int} (h : VC W g k n) (x y : Int) : VC ((W.setCell ⟨g, 0, none⟩ (.int .i64 x)).setCell ⟨g, 1, none⟩ (.int .i64 y)) g x y := by
  unfold VC at *
  simp only [World.setCell, Array.getElem?_modify, if_true, h]
  rfl
theorem VC.set1 {W : World} {g : Nat} {k n : Int} (h : VC W g k n) (y : Int) : VC (W.setCell ⟨g, 1, none⟩ (.int .i64 y)) g k y := by
  unfold VC at *
  simp only [World.setCell, Array.getElem?_modify, if_true, h]
  rfl
theorem AC.set {W : World} {g : Nat} {k n s h c d : Int} (H : AC W g k n s h c d) {p : Addr} (hp : g ≠ p.block) (u : Value) : AC (W.setCell p u) g k n s h c d := by
  unfold AC at *
  obtain ⟨b, o, sp⟩ := p
  have hb : b ≠ g := fun q => hp q.symm
  simp only [World.setCell, Array.getElem?_modify, if_neg hb, H]
theorem AC.alloc {W : World} {g : Nat} {k n s h c d : Int} (H : AC W g k n s h c d) (o : Obj) : AC (W.alloc o) g k n s h c d := by
  have hl : g < W.heap.size := (Array.getElem?_eq_some_iff.1 H).1
  unfold AC; rw [heap_alloc_old _ _ hl]; exact H
theorem of_same2 (n h s : Int) : ofV 2 h s = ofV 2 n s := by unfold ofV; rw [num_yes rfl, num_yes rfl]
theorem of_same {k : Int} (q : ¬k = 2) (n h s : Int) : ofV k n h = ofV k n s := by unfold ofV; rw [num_no q, num_no q]
set_option maxHeartbeats 2000000 in
theorem lawOf_any (k n s h c d : Int) (w : World) : Calls Try.prog 3 #[.agg #[.int .i64 k, .int .i64 n, .int .i64 s, .int .i64 h, .int .i64 c, .int .i64 d]] w fun e w' => e = .returned (.bool true) ∧ Below w.heap.size w w' := by
  have b1 : Below w.heap.size w (w.alloc (.cells #[.int .i64 k, .int .i64 n, .int .i64 s, .int .i64 h, .int .i64 c, .int .i64 d] 25)) := (Below.refl _ _).alloc (Nat.le_refl _) _
  have A := AC.new w k n s h c d
  obtain ⟨c0, c1, c2, c3, c4, c5⟩ := A.facts
  obtain ⟨r0, r1⟩ := of_range k n s
  by_cases q : k = 2
  · subst q
    have O := hid_mk (of_any 2 n s)
    have RO := hid_mk (refOf_any 2 n s)
    have O2 := hid_mk (of_any 2 h s)
    rw [of_same2 n h s] at O2
    unfold val at O RO O2
    generalize ofV 2 n s = o at *
    have A4 := hid_mk (A.alloc (.cells #[.int .i64 2, .int .i64 h] 23))
    have V4 : Hid (VC ((w.alloc (.cells #[.int .i64 2, .int .i64 n, .int .i64 s, .int .i64 h, .int .i64 c, .int .i64 d] 25)).alloc (.cells #[.int .i64 2, .int .i64 h] 23)) (w.heap.size + 1) 2 h) := heap_alloc2_new _ _ _
    have b4 := hid_mk (b1.alloc b1.size (.cells #[.int .i64 2, .int .i64 h] 23))
    clear A b1
    go_enter Try.func3, Try.ntmps3
    go_wp2_with fail
    refine (O.out _).mono ?_
    rintro e w1 ⟨rfl, hg⟩
    have A5 := A4.out.kept hg
    have V5 := V4.out.kept hg
    have b5 := below_seq b4.out hg
    clear hg A4 V4 b4 c0 c1 c2 c3 c4 c5
    go_wp2_with fail
    refine (alive_any _).mono ?_
    rintro e w2 ⟨rfl, hg⟩
    have A6 := A5.kept hg
    have V6 := V5.kept hg
    have b6 := below_seq b5 hg
    clear hg A5 V5 b5
    obtain ⟨c0, c1, c2, c3, c4, c5⟩ := A6.facts
    go_wp2_with fail
    refine (RO.out _).mono ?_
    rintro e w3 ⟨rfl, hg⟩
    have V7 := V6.kept hg
    have b7 := below_seq b6 hg
    clear hg A6 V6 b6 c0 c1 c2 c3 c4 c5
    obtain ⟨d0, d1⟩ := V7.facts
    go_wp2_with fail
    refine (O2.out _).mono ?_
    rintro e w4 ⟨rfl, hg⟩
    have b8 := below_seq b7 hg
    go_wp2
    go_ret
    exact ⟨rfl, b8⟩
  · have O := hid_mk (of_any k n s)
    have RO := hid_mk (refOf_any k n s)
    have O2 := hid_mk (of_any k n h)
    rw [of_same q n h s] at O2
    unfold val at O RO O2
    generalize ofV k n s = o at *
    have e1 : (k == 2) = false := by simpa using q
    have e2 : (k != 2) = true := by simpa using q
    have A4 := hid_mk (A.alloc (.cells #[.int .i64 k, .int .i64 n] 23))
    have V4 : Hid (VC ((w.alloc (.cells #[.int .i64 k, .int .i64 n, .int .i64 s, .int .i64 h, .int .i64 c, .int .i64 d] 25)).alloc (.cells #[.int .i64 k, .int .i64 n] 23)) (w.heap.size + 1) k n) := heap_alloc2_new _ _ _
    have b4 := hid_mk (b1.alloc b1.size (.cells #[.int .i64 k, .int .i64 n] 23))
    clear A b1 q
    go_enter Try.func3, Try.ntmps3
    go_wp2_with fail
    refine (O.out _).mono ?_
    rintro e w1 ⟨rfl, hg⟩
    have A5 := A4.out.kept hg
    have V5 := V4.out.kept hg
    have b5 := below_seq b4.out hg
    clear hg A4 V4 b4 c0 c1 c2 c3 c4 c5
    go_wp2_with fail
    refine (alive_any _).mono ?_
    rintro e w2 ⟨rfl, hg⟩
    have A6 := A5.kept hg
    have V6 := V5.kept hg
    have b6 := below_seq b5 hg
    clear hg A5 V5 b5
    obtain ⟨c0, c1, c2, c3, c4, c5⟩ := A6.facts
    go_wp2_with fail
    refine (RO.out _).mono ?_
    rintro e w3 ⟨rfl, hg⟩
    have V7 := V6.kept hg
    have b7 := below_seq b6 hg
    clear hg A6 V6 b6 c0 c1 c2 c3 c4 c5
    obtain ⟨d0, d1⟩ := V7.facts
    go_wp2_with fail
    refine (O2.out _).mono ?_
    rintro e w4 ⟨rfl, hg⟩
    have b8 := below_seq b7 hg
    go_wp2
    go_ret
    exact ⟨rfl, b8⟩

/-- the eight capacities, as the law goes over them -/
theorem dbl_facts (h n : Int) (hc : Cap n) (hl : n < 512) : 0 ≤ slotV h n ∧ slotV h n < n ∧ growsB (2 * n) n = true ∧ growsB (2 * n - 1) n = false ∧ headsV n = 2 * n ∧ Cap (2 * n) ∧ (slotV h (2 * n) = slotV h n ∨ slotV h (2 * n) = slotV h n + n) := by
  have hc2 : Cap (2 * n) := by unfold Cap at *; omega
  have r := cap_pos hc
  have l := Int.emod_lt_of_pos h (show 0 < n by omega)
  have l0 := Int.emod_nonneg h (show n ≠ 0 by omega)
  unfold slotV growsB headsV
  rw [cap_true hc, cap_true hc2, decide_eq_true hl]
  simp only [if_true, Bool.and_self, Bool.true_and, if_neg (show n ≠ 0 by omega), decide_eq_false (show n ≠ 0 by omega), Bool.false_or]
  refine ⟨l0, l, by simp, by simp; omega, by simp, hc2, ?_⟩
  rcases hc with rfl | rfl | rfl | rfl | rfl | rfl | rfl | rfl <;> omega
theorem last_facts (h : Int) : 0 ≤ slotV h 512 ∧ headsV 512 = 0 ∧ growsB 4611686018427387904 512 = false ∧ slotV h 1024 = -1 := by
  refine ⟨?_, by decide, by decide, ?_⟩
  · have : slotV h 512 = h % 512 := rfl
    omega
  · rfl
set_option maxHeartbeats 2000000 in
theorem doubles_any (h : Int) (w : World) : Calls Try.prog 6 #[.int .i64 h] w fun e w' => e = .returned (.bool true) ∧ Below w.heap.size w w' := by
  have G0 := hid_mk (grows_any 0 0)
  have H0 := hid_mk (heads_any 0)
  rw [show growsB 0 0 = true by decide] at G0
  rw [show headsV 0 = 4 by decide] at H0
  go_enter Try.func6, Try.ntmps6
  go_wp2_with fail
  refine (alive_any _).mono ?_
  rintro e w1 ⟨rfl, hg⟩
  go_wp2_with fail
  refine calls_same (G0.out _) ?_
  go_wp2_with fail
  refine calls_same (H0.out _) ?_
  clear G0 H0
  go_wp2
  go_loopw [2, 3] (fun ok m wr => ∃ n : Int, ok = .bool false ∧ m = .int .i64 n ∧ Hid (Cap n) ∧ 4 ≤ n ∧ n ≤ 512 ∧ wr = w1) (fun _ m _ => (2048 - intOf m).toNat)
  case atStart => exact ⟨4, rfl, rfl, hid_mk (.inl rfl), by decide, by decide, rfl⟩
  case round =>
    obtain ⟨n, rfl, rfl, C, n1, n2, rfl⟩ := hrel
    by_cases hl : n < 512
    · obtain ⟨f1, f2, f3, f4, f5, f6, f7⟩ := dbl_facts h n C.out hl
      have S := hid_mk (slot_any h n)
      have S2 := hid_mk (slot_any h (2 * n))
      have G1 := hid_mk (grows_any (2 * n) n)
      have G2 := hid_mk (grows_any (2 * n - 1) n)
      have HH := hid_mk (heads_any n)
      rw [f3] at G1
      rw [f4] at G2
      rw [f5] at HH
      have C2 := hid_mk f6
      have q5 : 2 * n ≤ 512 := (cap_pos f6).2
      have e2 : wrap64 (2 * n) = 2 * n := wrap_in _ (by omega) (by omega)
      have e3 : wrap64 (2 * n - 1) = 2 * n - 1 := wrap_in _ (by omega) (by omega)
      generalize slotV h n = z at *
      generalize slotV h (2 * n) = y at *
      have e4 : wrap64 (z + n) = z + n := wrap_in _ (by omega) (by omega)
      clear f3 f4 f5 f6 C
      go_wp2_with fail
      refine calls_same (S.out _) ?_
      go_wp2_with fail
      refine calls_same (G1.out _) ?_
      go_wp2_with fail
      refine calls_same (G2.out _) ?_
      go_wp2_with fail
      refine calls_same (HH.out _) ?_
      go_wp2_with fail
      refine calls_same (S2.out _) ?_
      by_cases hy : y = z
      · have e5 : (y != z) = false := by simpa using hy
        clear f7 hy
        go_wp2
        go_roundw
        case rel => exact ⟨2 * n, rfl, rfl, C2, by omega, by omega, trivial⟩
        case measure => simp [intOf]; omega
      · have e5 : (y != z) = true := by simpa using hy
        have e6 : (y != z + n) = false := by simpa using f7.resolve_left hy
        clear f7 hy
        go_wp2
        go_roundw
        case rel => exact ⟨2 * n, rfl, rfl, C2, by omega, by omega, trivial⟩
        case measure => simp [intOf]; omega
    · obtain rfl : n = 512 := by omega
      obtain ⟨f1, f2, f3, f4⟩ := last_facts h
      have S := hid_mk (slot_any h 512)
      have S2 := hid_mk (slot_any h 1024)
      have G1 := hid_mk (grows_any 4611686018427387904 512)
      have HH := hid_mk (heads_any 512)
      rw [f2] at HH
      rw [f3] at G1
      rw [f4] at S2
      generalize slotV h 512 = z at *
      clear f2 f3 f4 C
      go_wp2_with fail
      refine calls_same (S.out _) ?_
      go_wp2_with fail
      refine calls_same (HH.out _) ?_
      go_wp2_with fail
      refine calls_same (G1.out _) ?_
      go_wp2_with fail
      refine calls_same (S2.out _) ?_
      go_wp2
      go_ret
      exact ⟨rfl, hg⟩
end Go.Proofs.Ytjboogfbdgbfbaa
