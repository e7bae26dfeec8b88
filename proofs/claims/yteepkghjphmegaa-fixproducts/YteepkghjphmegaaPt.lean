/- the parts of a pattern -/
import Derived.Test.YteepkghjphmegaaRw
namespace Go.Proofs.Yteepkghjphmegaa
open Go.ChangeShapes Go.WideShapes Go.ChangeAt Go.RowKit
set_option linter.unusedVariables false
set_option linter.unusedSimpArgs false

def rg (b : Int) : Int := b % 9223372036854775808
def pNeg (b : Int) : Bool := decide (b < 0)
def pInf (b : Int) : Bool := decide (rg b = 9218868437227405312)
def pNone (b : Int) : Bool := decide (9218868437227405312 < rg b)
def pWhole (b : Int) : Int := if rg b < 4503599627370496 then rg b else if rg b < 9218868437227405312 then rg b % 4503599627370496 + 4503599627370496 else 0
def pExp (b : Int) : Int := if rg b < 4503599627370496 then -1074 else if rg b < 9218868437227405312 then rg b / 4503599627370496 - 1075 else 0
def flo (b : Int) : Value := .agg #[.bool (pNeg b), .bool (pInf b), .bool (pNone b), .int .i64 (pWhole b), .int .i64 (pExp b)]
def canonV (b : Int) : Int := if pNone b = true then noNum else b
theorem ret_agg {a b : Value} (h : a = b) : Ending.returned a = .returned b := by rw [h]

theorem i64_bounds {v : Int} (h : (Lit.int .i64 v).wf = true) : -9223372036854775808 ≤ v ∧ v ≤ 9223372036854775807 := by
  simpa [Lit.wf, IntKind.min, IntKind.max, IntKind.signed, IntKind.bits] using h

theorem flo_mk {b : Int} {n i z : Bool} {wh ex : Int} (h1 : n = pNeg b) (h2 : i = pInf b) (h3 : z = pNone b) (h4 : wh = pWhole b) (h5 : ex = pExp b) :
    Value.agg #[.bool n, .bool i, .bool z, .int .i64 wh, .int .i64 ex] = flo b := by
  subst h1; subst h2; subst h3; subst h4; subst h5; rfl
theorem info5 : (Try.prog.info? 31).map (·.size) = some 5 := by kernel_rfl
theorem retFlo {fn : Func} {a : Act} {w : World} {o : Obj} {cs : Array Value} {post : Ending → World → Prop} (hr : fn.results = #[.cell 2 31]) (hp : a.tmps.getD 2 undef = .pointer (some ⟨w.heap.size, 0, none⟩))
    (hd : a.defers = []) (hs : cs.size = 5) (h : post (.returned (.agg cs)) ((w.alloc (.cells cs 31)).alloc o)) :
    bodyPost Try.prog fn post Exit.ret a ((w.alloc (.cells cs 31)).alloc o) :=
  bodyPost_ret (v := .agg cs) (results_cell_row hr a.tmps _ w.heap.size 31 cs (0, 0) _ hp (by rw [heap_alloc_old _ _ (by simp)]; exact heap_alloc_new _ _) Try.underlying31 rfl (by rw [hs]; exact info5)) hd h

set_option maxHeartbeats 2000000 in
theorem refParts_any (b : Int) (w : World) (h1 : -9223372036854775808 ≤ b) (h2 : b ≤ 9223372036854775807) :
    Calls Try.prog 40 #[.int .i64 b] w fun e w' => e = .returned (flo b) ∧ Below w.heap.size w w' := by
  obtain ⟨r, hr⟩ : ∃ r, r = rg b := ⟨_, rfl⟩
  have hr' : (0 ≤ b ∧ r = b) ∨ (b < 0 ∧ r = b + 9223372036854775808) := by rw [hr]; unfold rg; omega
  have r0 : 0 ≤ r := by omega
  have r1 : r < 9223372036854775808 := by omega
  have HR : Hid (r = rg b) := hr
  clear hr
  rcases hr' with ⟨hn, rfl⟩ | ⟨hn, hb⟩
  · have c : (r / 4503599627370496 = 2047 ∧ r % 4503599627370496 = 0) ∨ (r / 4503599627370496 = 2047 ∧ 1 ≤ r % 4503599627370496) ∨ (r / 4503599627370496 = 0) ∨ (1 ≤ r / 4503599627370496 ∧ r / 4503599627370496 ≤ 2046) := by omega
    rcases c with ⟨c1, c2⟩ | ⟨c1, c2⟩ | c1 | ⟨c1, c2⟩
    all_goals
      go_enter Try.func40, Try.ntmps40
      go_wp2
      refine retFlo Try.results40 rfl rfl rfl ⟨ret_agg (flo_mk rfl ?_ ?_ ?_ ?_), ((Below.refl _ _).alloc (by simp) _).alloc (by simp) _⟩
      all_goals (have e := HR.out; simp only [pInf, pNone, pWhole, pExp, ← e]; first | (symm; rw [decide_eq_true_eq]; omega) | (symm; rw [decide_eq_false_iff_not]; omega) | (split <;> first | omega | (split <;> omega)))
  · have c : (-4503599627370496 ≤ b ∧ b ≤ -4503599627370496) ∨ (-4503599627370496 < b) ∨ (b < -9218868437227405312) ∨ (-9218868437227405312 ≤ b ∧ b < -4503599627370496) := by omega
    have HB : Hid (r = b + 9223372036854775808) := hb
    clear hb r0 r1
    rcases c with ⟨c1, c2⟩ | c1 | c1 | ⟨c1, c2⟩
    all_goals
      go_enter Try.func40, Try.ntmps40
      go_wp2
      refine retFlo Try.results40 rfl rfl rfl ⟨ret_agg (flo_mk (by simp [pNeg, hn]) ?_ ?_ ?_ ?_), ((Below.refl _ _).alloc (by simp) _).alloc (by simp) _⟩
      all_goals (have e := HR.out; have e2 := HB.out; simp only [pInf, pNone, pWhole, pExp, ← e]; first | (symm; rw [decide_eq_true_eq]; omega) | (symm; rw [decide_eq_false_iff_not]; omega) | (split <;> first | omega | (split <;> omega)))

theorem fld0 (b : Int) (w : World) : (Instr.field 31 (flo b) 0).run Try.prog w = .ok (.bool (pNeg b)) w := by kernel_rfl
theorem fld1 (b : Int) (w : World) : (Instr.field 31 (flo b) 1).run Try.prog w = .ok (.bool (pInf b)) w := by kernel_rfl
theorem fld2 (b : Int) (w : World) : (Instr.field 31 (flo b) 2).run Try.prog w = .ok (.bool (pNone b)) w := by kernel_rfl
theorem fld3 (b : Int) (w : World) : (Instr.field 31 (flo b) 3).run Try.prog w = .ok (.int .i64 (pWhole b)) w := by kernel_rfl
theorem fld4 (b : Int) (w : World) : (Instr.field 31 (flo b) 4).run Try.prog w = .ok (.int .i64 (pExp b)) w := by kernel_rfl

theorem refCanon_any (b : Int) (w : World) (h1 : -9223372036854775808 ≤ b) (h2 : b ≤ 9223372036854775807) :
    Calls Try.prog 39 #[.int .i64 b] w fun e w' => e = .returned (.int .i64 (canonV b)) ∧ Below w.heap.size w w' := by
  have f2 := fld2
  by_cases h : pNone b = true
  · go_enter Try.func39, Try.ntmps39
    go_wp2_with (go_at_call 40; refine (refParts_any _ _ h1 h2).mono ?_; rintro e w1 ⟨rfl, hg⟩)
    go_ret
    exact ⟨ret_int (by simp [canonV, h, noNum]), by assumption⟩
  · have h' := Bool.eq_false_iff.mpr h
    clear h
    go_enter Try.func39, Try.ntmps39
    go_wp2_with (go_at_call 40; refine (refParts_any _ _ h1 h2).mono ?_; rintro e w1 ⟨rfl, hg⟩)
    go_ret
    exact ⟨ret_int (by simp [canonV, h']), by assumption⟩

end Go.Proofs.Yteepkghjphmegaa
