/- the walks of Pt -/
import Derived.Test.YteepkghjphmegabRw
import Derived.Test.YteepkghjphmegabM1
namespace Go.Proofs.Yteepkghjphmegab
open Go.ChangeShapes Go.WideShapes Go.ChangeAt Go.RowKit
set_option linter.unusedVariables false
set_option linter.unusedSimpArgs false

theorem info5 : (Try.prog.info? 51).map (·.size) = some 5 := by kernel_rfl
theorem retFlo {fn : Func} {a : Act} {w : World} {o : Obj} {cs : Array Value} {post : Ending → World → Prop} (hr : fn.results = #[.cell 2 51]) (hp : a.tmps.getD 2 undef = .pointer (some ⟨w.heap.size, 0, none⟩))
    (hd : a.defers = []) (hs : cs.size = 5) (h : post (.returned (.agg cs)) ((w.alloc (.cells cs 51)).alloc o)) :
    bodyPost Try.prog fn post Exit.ret a ((w.alloc (.cells cs 51)).alloc o) :=
  bodyPost_ret (v := .agg cs) (results_cell_row hr a.tmps _ w.heap.size 51 cs (0, 0) _ hp (by rw [heap_alloc_old _ _ (by simp)]; exact heap_alloc_new _ _) Try.underlying51 rfl (by rw [hs]; exact info5)) hd h

set_option maxHeartbeats 2000000 in
theorem refParts_any (b : Int) (w : World) (h1 : -9223372036854775808 ≤ b) (h2 : b ≤ 9223372036854775807) :
    Calls Try.prog 45 #[.int .i64 b] w fun e w' => e = .returned (flo b) ∧ Below w.heap.size w w' := by
  obtain ⟨r, hr⟩ : ∃ r, r = rg b := ⟨_, rfl⟩
  have hr' : (0 ≤ b ∧ r = b) ∨ (b < 0 ∧ r = b + 9223372036854775808) := by rw [hr]; unfold rg; omega
  have r0 : 0 ≤ r := by omega
  have r1 : r < 9223372036854775808 := by omega
  have HR : Hid (r = rg b) := hr
  clear hr
  rcases hr' with ⟨hn, rfl⟩ | ⟨hn, hb⟩
  · have c : (r / 4503599627370496 = 2047 ∧ r % 4503599627370496 = 0) ∨ (r / 4503599627370496 = 2047 ∧ 1 ≤ r % 4503599627370496) ∨ (r / 4503599627370496 = 0) ∨ (1 ≤ r / 4503599627370496 ∧ r / 4503599627370496 ≤ 2046) := by omega
    rcases c with ⟨c1, c2⟩ | ⟨c1, c2⟩ | c1 | ⟨c1, c2⟩
    all_goals
      go_enter Try.func45, Try.ntmps45
      go_wp2
      refine retFlo Try.results45 rfl rfl rfl ⟨ret_agg (flo_mk rfl ?_ ?_ ?_ ?_), ((Below.refl _ _).alloc (by simp) _).alloc (by simp) _⟩
      all_goals (have e := HR.out; simp only [pInf, pNone, pWhole, pExp, ← e]; first | (symm; rw [decide_eq_true_eq]; omega) | (symm; rw [decide_eq_false_iff_not]; omega) | (split <;> first | omega | (split <;> omega)))
  · have c : (-4503599627370496 ≤ b ∧ b ≤ -4503599627370496) ∨ (-4503599627370496 < b) ∨ (b < -9218868437227405312) ∨ (-9218868437227405312 ≤ b ∧ b < -4503599627370496) := by omega
    have HB : Hid (r = b + 9223372036854775808) := hb
    clear hb r0 r1
    rcases c with ⟨c1, c2⟩ | c1 | c1 | ⟨c1, c2⟩
    all_goals
      go_enter Try.func45, Try.ntmps45
      go_wp2
      refine retFlo Try.results45 rfl rfl rfl ⟨ret_agg (flo_mk (by simp [pNeg, hn]) ?_ ?_ ?_ ?_), ((Below.refl _ _).alloc (by simp) _).alloc (by simp) _⟩
      all_goals (have e := HR.out; have e2 := HB.out; simp only [pInf, pNone, pWhole, pExp, ← e]; first | (symm; rw [decide_eq_true_eq]; omega) | (symm; rw [decide_eq_false_iff_not]; omega) | (split <;> first | omega | (split <;> omega)))

theorem fld0 (b : Int) (w : World) : (Instr.field 51 (flo b) 0).run Try.prog w = .ok (.bool (pNeg b)) w := by kernel_rfl
theorem fld1 (b : Int) (w : World) : (Instr.field 51 (flo b) 1).run Try.prog w = .ok (.bool (pInf b)) w := by kernel_rfl
theorem fld2 (b : Int) (w : World) : (Instr.field 51 (flo b) 2).run Try.prog w = .ok (.bool (pNone b)) w := by kernel_rfl
theorem fld3 (b : Int) (w : World) : (Instr.field 51 (flo b) 3).run Try.prog w = .ok (.int .i64 (pWhole b)) w := by kernel_rfl
theorem fld4 (b : Int) (w : World) : (Instr.field 51 (flo b) 4).run Try.prog w = .ok (.int .i64 (pExp b)) w := by kernel_rfl

theorem refCanon_any (b : Int) (w : World) (h1 : -9223372036854775808 ≤ b) (h2 : b ≤ 9223372036854775807) :
    Calls Try.prog 52 #[.int .i64 b] w fun e w' => e = .returned (.int .i64 (canonV b)) ∧ Below w.heap.size w w' := by
  have f2 := fld2
  by_cases h : pNone b = true
  · go_enter Try.func52, Try.ntmps52
    go_wp2_with (go_at_call 45; refine (refParts_any _ _ h1 h2).mono ?_; rintro e w1 ⟨rfl, hg⟩)
    go_ret
    exact ⟨ret_int (by simp [canonV, h, noNum]), by assumption⟩
  · have h' := Bool.eq_false_iff.mpr h
    clear h
    go_enter Try.func52, Try.ntmps52
    go_wp2_with (go_at_call 45; refine (refParts_any _ _ h1 h2).mono ?_; rintro e w1 ⟨rfl, hg⟩)
    go_ret
    exact ⟨ret_int (by simp [canonV, h']), by assumption⟩
end Go.Proofs.Yteepkghjphmegab
