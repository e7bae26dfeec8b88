import Derived.Test.YtcpignkjlnjjmaaDoorNk09
import Derived.Defers
import Derived.Recover
import Derived.WalkSmall
import Derived.Test.YtcpignkjlnjjmaaDoorNk02
import Derived.WalkKit
import Derived.Carry
namespace Go.Proofs.YtcpignkjlnjjmaaDoor
open Go.RowKit
set_option linter.unusedVariables false
set_option linter.unusedSimpArgs false

/-- what a panic carries: a fault -/
def stopP (e a : Int) : PanicEntry := { v := .iface 72 (.agg #[.int .i64 e, .int .i64 a]), recovered := false }
theorem want_yes (e : Int) (w : World) : Calls Tryd.prog 22 #[.bool true, .int .i64 e] w fun x w' => x = .returned (.tuple #[]) ∧ w' = w := by
  go_enter Tryd.func22, Tryd.ntmps22
  go_wp2
  exact bodyPost_end (results_none Tryd.results22 _ _ _) rfl ⟨rfl, rfl⟩
theorem want_no (e : Int) (w : World) : Calls Tryd.prog 22 #[.bool false, .int .i64 e] w fun x w' => x = .panicked [stopP e 0] ∧ w' = w := by
  go_enter Tryd.func22, Tryd.ntmps22
  go_wp2
  exact ⟨rfl, rfl, rfl⟩
theorem fail_ok (a : Int) (w : World) : Calls Tryd.prog 18 #[.agg #[.int .i64 0, .int .i64 a]] w fun x w' => x = .returned (.tuple #[]) ∧ Out 0 0 w w' := by
  go_enter Tryd.func18, Tryd.ntmps18
  go_wp2
  exact bodyPost_end (results_none Tryd.results18 _ _ _) rfl ⟨rfl, (Out.refl 0 0 w).alloc _⟩
theorem fail_no {e : Int} (he : e ≠ 0) (a : Int) (w : World) : Calls Tryd.prog 18 #[.agg #[.int .i64 e, .int .i64 a]] w fun x w' => x = .panicked [stopP e a] ∧ Out 0 0 w w' := by
  have h1 : (e != 0) = true := by simpa using he
  go_enter Tryd.func18, Tryd.ntmps18
  go_wp2
  exact ⟨rfl, rfl, (Out.refl 0 0 w).alloc _⟩
theorem caught_nil (w : World) : Calls Tryd.prog 12 #[.nilIface] w fun x w' => x = .returned (.agg #[.int .i64 0, .int .i64 0]) ∧ Out 0 0 w w' := by
  go_enter Tryd.func12, Tryd.ntmps12
  go_wp2
  exact retFlt Tryd.results12 rfl rfl (heap_alloc_new _ _) ⟨rfl, (Out.refl 0 0 w).alloc _⟩
theorem caught_stop (e a : Int) (w : World) : Calls Tryd.prog 12 #[.iface 72 (.agg #[.int .i64 e, .int .i64 a])] w fun x w' => x = .returned (.agg #[.int .i64 e, .int .i64 a]) ∧ Out 0 0 w w' := by
  have h1 : ∀ W, (binOp .eql 20 (.iface 72 (.agg #[.int .i64 e, .int .i64 a])) .nilIface).run Tryd.prog W = .ok (.bool false) W := fun W => by kernel_rfl
  have h2 : ∀ W, (Instr.typeAssert (.iface 72 (.agg #[.int .i64 e, .int .i64 a])) 20 72 true).run Tryd.prog W = .ok (.tuple #[.agg #[.int .i64 e, .int .i64 a], .bool true]) W := fun W => by kernel_rfl
  go_enter Tryd.func12, Tryd.ntmps12
  go_wp2
  exact retFlt Tryd.results12 rfl rfl two_first ⟨rfl, ((Out.refl 0 0 w).alloc _).alloc _⟩
end Go.Proofs.YtcpignkjlnjjmaaDoor
namespace Go.Proofs.YtcpignkjlnjjmaaDoor
open Go.RowKit
set_option linter.unusedVariables false
set_option linter.unusedSimpArgs false


theorem ret_val_v {a b : Value} (h : a = b) : Ending.returned a = .returned b := by rw [h]
def fitsB_v (v : Int) : Bool := decide (-1152921504606846976 ≤ v ∧ v ≤ 1152921504606846975)
def scalarB_v (n : Int) : Bool := decide (0 ≤ n ∧ n ≤ 1114111 ∧ (n < 55296 ∨ 57343 < n))
def validB_v (k n : Int) : Bool := decide ((k = 1 ∧ -1152921504606846976 ≤ n ∧ n ≤ 1152921504606846975) ∨ (k = 2 ∧ 0 ≤ n ∧ n ≤ 1152921504606846975) ∨ (k = 3 ∧ 0 ≤ n ∧ n ≤ 5) ∨ (k = 4 ∧ 0 ≤ n ∧ n ≤ 1114111 ∧ (n < 55296 ∨ 57343 < n)))
/-- a value as its struct -/
def val_v (k n : Int) : Value := .agg #[.int .i64 k, .int .i64 n]

theorem fixFits_any_v (v : Int) (w : World) :
    Calls Tryd.prog 52 #[.int .i64 v] w fun e w' => e = .returned (.bool (fitsB_v v)) ∧ w' = w := by
  go_enter Tryd.func52, Tryd.ntmps52
  go_wp2
  all_goals go_ret
  all_goals refine ⟨ret_bool ?_, rfl⟩
  all_goals (unfold fitsB_v; rw [Bool.eq_iff_iff]; simp; try omega)

theorem validRune_any_v (v : Int) (w : World) :
    Calls Tryd.prog 62 #[.int .i32 v] w fun e w' => e = .returned (.bool (scalarB_v v)) ∧ w' = w := by
  have c : (0 ≤ v ∧ v < 55296) ∨ (v < 0) ∨ (55296 ≤ v ∧ v ≤ 57343) ∨ (57343 < v ∧ v ≤ 1114111) ∨ (1114111 < v) := by omega
  rcases c with ⟨c1, c2⟩ | c1 | ⟨c1, c2⟩ | ⟨c1, c2⟩ | c1
  all_goals
    go_enter Tryd.func62, Tryd.ntmps62
    go_wp2
    go_ret
    refine ⟨ret_bool ?_, rfl⟩
    unfold scalarB_v
    first | (symm; rw [decide_eq_true_eq]; omega) | (symm; rw [decide_eq_false_iff_not]; omega)


theorem and_seven_v (b : Int) : bits .and .i64 b 7 = b % 8 := by
  have h : (BitVec.ofInt 64 b &&& BitVec.ofInt 64 7).toNat = (b % 18446744073709551616).toNat % 8 := by
    have e7 : (BitVec.ofInt 64 7).toNat = 2 ^ 3 - 1 := by decide
    rw [BitVec.toNat_and, e7, Nat.and_two_pow_sub_one_eq_mod, ofInt_nat]
  have e : bits .and .i64 b 7 = IntKind.wrap .i64 ((BitVec.ofInt 64 b &&& BitVec.ofInt 64 7).toNat : Nat) := rfl
  rw [e, h]
  simp [IntKind.wrap, IntKind.signed, IntKind.bits]
  omega
theorem ret_tup_v {a b c d : Int} (h1 : a = c) (h2 : b = d) : Ending.returned (.tuple #[.int .i64 a, .int .i64 b]) = .returned (.tuple #[.int .i64 c, .int .i64 d]) := by rw [h1, h2]
theorem split_any_v (v : Int) (w : World) :
    Calls Tryd.prog 37 #[.int .i64 v] w fun e w' => e = .returned (.tuple #[.int .i64 (v / 8), .int .i64 (v % 8)]) ∧ w' = w := by
  have H := hid_mk (and_seven_v v)
  go_enter Tryd.func37, Tryd.ntmps37
  go_wp2
  go_ret2
  exact ⟨ret_tup_v rfl (by first | rfl | exact H.out), rfl⟩


theorem isScalar_any_v (n : Int) (w : World) :
    Calls Tryd.prog 53 #[.int .i64 n] w fun e w' => e = .returned (.bool (scalarB_v n)) ∧ w' = w := by
  go_enter Tryd.func53, Tryd.ntmps53
  go_wp2_with (go_at_call 62; refine calls_same (validRune_any_v _ _) ?_)
  all_goals go_ret
  all_goals refine ⟨ret_bool ?_, rfl⟩
  · rename_i h
    have e : wrap32 n = n := by unfold wrap32 wrap64 at *; omega
    rw [e]
  · rename_i h
    unfold scalarB_v
    symm; rw [decide_eq_false_iff_not]
    unfold wrap32 wrap64 at *; omega


theorem val_cells_v {W : World} {g : Nat} {x y : Int} (h : W.heap[g]? = some (.cells #[.int .i64 x, .int .i64 y] 31 (0, 0))) :
    W.cell? ⟨g, 0, none⟩ = some (.int .i64 x) ∧ W.cell? ⟨g, 1, none⟩ = some (.int .i64 y) := by
  simp [World.cell?, h]
theorem kinds_v (k : Int) : k = 1 ∨ k = 2 ∨ k = 3 ∨ k = 4 ∨ ((k == 1) = false ∧ (k == 2) = false ∧ (k == 3) = false ∧ (k == 4) = false) := by
  simp; omega
theorem valid1_v (n : Int) : validB_v 1 n = fitsB_v n := by unfold validB_v fitsB_v; simp
theorem valid2_v (n : Int) : validB_v 2 n = (decide (0 ≤ n) && fitsB_v n) := by unfold validB_v fitsB_v; rw [Bool.eq_iff_iff]; simp; omega
theorem valid3_v (n : Int) : validB_v 3 n = decide (0 ≤ n ∧ n ≤ 5) := by unfold validB_v; simp
theorem valid4_v (n : Int) : validB_v 4 n = scalarB_v n := by unfold validB_v scalarB_v; simp
theorem valid5_v (k n : Int) (h : (k == 1) = false ∧ (k == 2) = false ∧ (k == 3) = false ∧ (k == 4) = false) : validB_v k n = false := by
  unfold validB_v; simp at h ⊢; omega
set_option maxHeartbeats 1000000 in
theorem valid_any_v (k n : Int) (w : World) :
    Calls Tryd.prog 38 #[val_v k n] w fun e w' => e = .returned (.bool (validB_v k n)) ∧ Below w.heap.size w w' := by
  unfold val_v
  have h0 : Below w.heap.size w (w.alloc (.cells #[.int .i64 k, .int .i64 n] 31)) := (Below.refl _ _).alloc (Nat.le_refl _) _
  have hA := heap_alloc_new w (.cells #[.int .i64 k, .int .i64 n] 31)
  obtain ⟨x0, x1⟩ := val_cells_v hA
  clear hA
  rcases kinds_v k with rfl | rfl | rfl | rfl | hk
  · rw [valid1_v]
    go_enter Tryd.func38, Tryd.ntmps38
    go_wp2_with (go_at_call 52; refine calls_same (fixFits_any_v _ _) ?_)
    go_ret
    exact ⟨rfl, h0⟩
  · rw [valid2_v]
    by_cases hn : 0 ≤ n
    · simp only [hn, decide_true, Bool.true_and]
      go_enter Tryd.func38, Tryd.ntmps38
      go_wp2_with (go_at_call 52; refine calls_same (fixFits_any_v _ _) ?_)
      go_ret
      exact ⟨rfl, h0⟩
    · have hn' : n < 0 := by omega
      simp only [hn, decide_false, Bool.false_and]
      clear hn
      go_enter Tryd.func38, Tryd.ntmps38
      go_wp2_with fail
      go_ret
      exact ⟨rfl, h0⟩
  · rw [valid3_v]
    go_enter Tryd.func38, Tryd.ntmps38
    go_wp2_with fail
    all_goals go_ret
    all_goals refine ⟨ret_bool ?_, h0⟩
    all_goals (rw [Bool.eq_iff_iff]; simp; try omega)
  · rw [valid4_v]
    go_enter Tryd.func38, Tryd.ntmps38
    go_wp2_with (go_at_call 53; refine calls_same (isScalar_any_v _ _) ?_)
    go_ret
    exact ⟨rfl, h0⟩
  · rw [valid5_v k n hk]
    obtain ⟨k1, k2, k3, k4⟩ := hk
    go_enter Tryd.func38, Tryd.ntmps38
    go_wp2_with fail
    go_ret
    exact ⟨rfl, h0⟩


/-- a block that holds one value -/
def VC_v (W : World) (g : Nat) (k n : Int) : Prop := W.heap[g]? = some (.cells #[.int .i64 k, .int .i64 n] 31 (0, 0))
theorem VC_v.kept {W W' : World} {g : Nat} {k n : Int} (h : VC_v W g k n) (hb : Below W.heap.size W W') : VC_v W' g k n := by
  unfold VC_v at *
  rw [← h]; exact hb.block g (Array.getElem?_eq_some_iff.1 h).1
theorem VC_v.facts {W : World} {g : Nat} {k n : Int} (h : VC_v W g k n) :
    W.cell? ⟨g, 0, none⟩ = some (.int .i64 k) ∧ W.cell? ⟨g, 1, none⟩ = some (.int .i64 n) ∧ W.frozen? ⟨g, 0, none⟩ = false ∧ W.frozen? ⟨g, 1, none⟩ = false := by
  unfold VC_v at h
  refine ⟨(val_cells_v h).1, (val_cells_v h).2, ?_, ?_⟩ <;> simp [World.frozen?, h]
theorem VC_v.set {W : World} {g : Nat} {k n : Int} (h : VC_v W g k n) (x y : Int) : VC_v ((W.setCell ⟨g, 0, none⟩ (.int .i64 x)).setCell ⟨g, 1, none⟩ (.int .i64 y)) g x y := by
  unfold VC_v at *
  simp only [World.setCell, Array.getElem?_modify, if_true, h]
  rfl
theorem VC_v.new (W : World) (k n : Int) : VC_v (W.alloc (.cells #[.int .i64 k, .int .i64 n] 31)) W.heap.size k n := heap_alloc_new _ _
theorem VC_v.lt {W : World} {g : Nat} {k n : Int} (h : VC_v W g k n) : g < W.heap.size := (Array.getElem?_eq_some_iff.1 h).1
theorem VC_v.alloc {W : World} {g : Nat} {k n : Int} (h : VC_v W g k n) (o : Obj) : VC_v (W.alloc o) g k n := by
  unfold VC_v; rw [heap_alloc_old _ _ h.lt]; exact h
theorem info2_v : (Tryd.prog.info? 31).map (·.size) = some 2 := by kernel_rfl
theorem retVal_v {fn : Func} {p : Tmp} {a : Act} {w : World} {g : Nat} {k n : Int} {post : Ending → World → Prop} (hr : fn.results = #[.cell p 31]) (hp : a.tmps.getD p undef = .pointer (some ⟨g, 0, none⟩))
    (hd : a.defers = []) (hg : VC_v w g k n) (h : post (.returned (val_v k n)) w) : bodyPost Tryd.prog fn post Exit.ret a w :=
  bodyPost_ret (v := val_v k n) (results_cell_row hr a.tmps _ g 31 _ (0, 0) _ hp hg Tryd.underlying31 rfl info2_v) hd h
theorem retVal2_v {fn : Func} {p u : Tmp} {a : Act} {w : World} {g : Nat} {k n : Int} {v : Value} {post : Ending → World → Prop} (hr : fn.results = #[.cell p 31, .tmp u]) (hp : a.tmps.getD p undef = .pointer (some ⟨g, 0, none⟩)) (hu : a.tmps.getD u undef = v)
    (hd : a.defers = []) (hg : VC_v w g k n) (h : post (.returned (.tuple #[val_v k n, v])) w) : bodyPost Tryd.prog fn post Exit.ret a w := by
  refine bodyPost_ret (v := .tuple #[val_v k n, v]) ?_ hd h
  rw [results_cell_tmp hr, hp]
  simp [asAddr, run_loadVar_row w g 31 31 _ (0, 0) _ hg Tryd.underlying31 rfl info2_v, Result.andThen, val_v]
  simpa using hu

/-- the Kind and the N of what is made -/
def mkK_v (k n : Int) : Int := if validB_v k n = true then k else 0
def mkN_v (k n : Int) : Int := if validB_v k n = true then n else 0
theorem mk_yes_v {k n : Int} (h : validB_v k n = true) : val_v k n = .agg #[.int .i64 (mkK_v k n), .int .i64 (mkN_v k n)] := by unfold mkK_v mkN_v val_v; rw [if_pos h, if_pos h]
theorem mk_no_v {k n : Int} (h : validB_v k n = false) : val_v 0 0 = .agg #[.int .i64 (mkK_v k n), .int .i64 (mkN_v k n)] := by
  unfold mkK_v mkN_v val_v; rw [h]; rfl
set_option maxHeartbeats 1000000 in
theorem made_any_v (k n : Int) (w : World) :
    Calls Tryd.prog 46 #[.int .i64 k, .int .i64 n] w fun e w' => e = .returned (.agg #[.int .i64 (mkK_v k n), .int .i64 (mkN_v k n)]) ∧ Below w.heap.size w w' := by
  have b1 : Below w.heap.size w (w.alloc (.cells #[.int .i64 0, .int .i64 0] 31)) := (Below.refl _ _).alloc (Nat.le_refl _) _
  have b2 := b1.alloc b1.size (.cells #[.int .i64 k, .int .i64 n] 31)
  have HB := hid_mk b2
  have V0 := hid_mk ((VC_v.new w 0 0).alloc (.cells #[.int .i64 k, .int .i64 n] 31))
  have V1 : Hid (VC_v ((w.alloc (.cells #[.int .i64 0, .int .i64 0] 31)).alloc (.cells #[.int .i64 k, .int .i64 n] 31)) (w.heap.size + 1) k n) := heap_alloc2_new _ _ _
  clear b1 b2
  by_cases hv : validB_v k n = true
  · go_enter Tryd.func46, Tryd.ntmps46
    go_wp2_with fail
    refine (valid_any_v k n _).mono ?_
    rintro e w1 ⟨rfl, hg⟩
    rw [hv]
    have g0 := hid_mk (V0.out.kept hg)
    have g1 := V1.out.kept hg
    have hb := HB.out.trans (hg.mono HB.out.size)
    clear hg HB V0 V1
    obtain ⟨x0, x1, x2, x3⟩ := g0.out.facts
    obtain ⟨x4, x5, x6, x7⟩ := g1.facts
    go_wp2_with fail
    refine retVal_v Tryd.results46 rfl rfl (g0.out.set k n) ⟨?_, ?_⟩
    · exact ret_val_v (mk_yes_v hv)
    · exact (hb.setCell (Nat.le_refl _) _).setCell (Nat.le_refl _) _
  · have hv' := Bool.eq_false_iff.mpr hv
    clear hv
    go_enter Tryd.func46, Tryd.ntmps46
    go_wp2_with fail
    refine (valid_any_v k n _).mono ?_
    rintro e w1 ⟨rfl, hg⟩
    rw [hv']
    have g0 := hid_mk (V0.out.kept hg)
    have g1 := V1.out.kept hg
    have hb := HB.out.trans (hg.mono HB.out.size)
    clear hg HB V0 V1
    obtain ⟨x0, x1, x2, x3⟩ := g0.out.facts
    obtain ⟨x4, x5, x6, x7⟩ := g1.facts
    go_wp2_with fail
    refine retVal_v Tryd.results46 rfl rfl (g0.out.set 0 0) ⟨?_, ?_⟩
    · exact ret_val_v (mk_no_v hv')
    · exact (hb.setCell (Nat.le_refl _) _).setCell (Nat.le_refl _) _

theorem refr_any_v (n : Int) (w : World) : Calls Tryd.prog 30 #[.int .i64 n] w fun e w' => e = .returned (.agg #[.int .i64 (mkK_v 2 n), .int .i64 (mkN_v 2 n)]) ∧ Below w.heap.size w w' := by
  have b1 : Below w.heap.size w (w.alloc (.cells #[.int .i64 0, .int .i64 0] 31)) := (Below.refl _ _).alloc (Nat.le_refl _) _
  have V0 := hid_mk (VC_v.new w 0 0)
  go_enter Tryd.func30, Tryd.ntmps30
  go_wp2_with fail
  refine (made_any_v _ _ _).mono ?_
  rintro e w1 ⟨rfl, hg⟩
  have g0 := hid_mk (V0.out.kept hg)
  have hb := b1.trans (hg.mono b1.size)
  clear hg b1 V0
  obtain ⟨x0, x1, x2, x3⟩ := g0.out.facts
  go_wp2_with fail
  exact retVal_v Tryd.results30 rfl rfl (g0.out.set _ _) ⟨rfl, (hb.setCell (Nat.le_refl _) _).setCell (Nat.le_refl _) _⟩
theorem imm_any_v (n : Int) (w : World) : Calls Tryd.prog 36 #[.int .i64 n] w fun e w' => e = .returned (.agg #[.int .i64 (mkK_v 3 n), .int .i64 (mkN_v 3 n)]) ∧ Below w.heap.size w w' := by
  have b1 : Below w.heap.size w (w.alloc (.cells #[.int .i64 0, .int .i64 0] 31)) := (Below.refl _ _).alloc (Nat.le_refl _) _
  have V0 := hid_mk (VC_v.new w 0 0)
  go_enter Tryd.func36, Tryd.ntmps36
  go_wp2_with fail
  refine (made_any_v _ _ _).mono ?_
  rintro e w1 ⟨rfl, hg⟩
  have g0 := hid_mk (V0.out.kept hg)
  have hb := b1.trans (hg.mono b1.size)
  clear hg b1 V0
  obtain ⟨x0, x1, x2, x3⟩ := g0.out.facts
  go_wp2_with fail
  exact retVal_v Tryd.results36 rfl rfl (g0.out.set _ _) ⟨rfl, (hb.setCell (Nat.le_refl _) _).setCell (Nat.le_refl _) _⟩


def wordV_v (k n : Int) : Int := if validB_v k n = true then n * 8 + (k - 1) else 0
theorem valid_range_v {k n : Int} (h : validB_v k n = true) : 1 ≤ k ∧ k ≤ 4 ∧ -1152921504606846976 ≤ n ∧ n ≤ 1152921504606846975 := by
  unfold validB_v at h; rw [decide_eq_true_eq] at h; omega
set_option maxHeartbeats 1000000 in
theorem word_any_v (k n : Int) (w : World) :
    Calls Tryd.prog 21 #[val_v k n] w fun e w' => e = .returned (.tuple #[.int .i64 (wordV_v k n), .bool (validB_v k n)]) ∧ Below w.heap.size w w' := by
  unfold val_v
  have b1 : Below w.heap.size w (w.alloc (.cells #[.int .i64 k, .int .i64 n] 31)) := (Below.refl _ _).alloc (Nat.le_refl _) _
  have V0 := VC_v.new w k n
  obtain ⟨x0, x1, x2, x3⟩ := V0.facts
  have HV := hid_mk V0
  clear V0
  by_cases hv : validB_v k n = true
  · have hw : wordV_v k n = n * 8 + (k - 1) := by unfold wordV_v; rw [if_pos hv]
    obtain ⟨r1, r2, r3, r4⟩ := valid_range_v hv
    have hj := fun w => join_any n (k - 1) w r3 r4 (by omega) (by omega)
    rw [hw, hv]
    go_enter Tryd.func21, Tryd.ntmps21
    go_wp2_with fail
    refine (valid_any_v k n _).mono ?_
    rintro e w1 ⟨rfl, hg⟩
    rw [hv]
    obtain ⟨x0, x1, x2, x3⟩ := (HV.out.kept hg).facts
    have hb := b1.trans (hg.mono b1.size)
    clear hg b1 HV
    go_wp2_with (go_at_call 39; refine calls_same (hj _) ?_)
    go_ret2
    exact ⟨rfl, hb⟩
  · have hv' := Bool.eq_false_iff.mpr hv
    have hw : wordV_v k n = 0 := by unfold wordV_v; rw [if_neg hv]
    rw [hw, hv']
    clear hv
    go_enter Tryd.func21, Tryd.ntmps21
    go_wp2_with fail
    refine (valid_any_v k n _).mono ?_
    rintro e w1 ⟨rfl, hg⟩
    rw [hv']
    have hb := b1.trans (hg.mono b1.size)
    clear hg b1 HV
    go_wp2_with fail
    go_ret2
    exact ⟨rfl, hb⟩

def lessB_v (a b c d : Int) : Bool := if a = c then decide (b < d) else decide (a < c)


def isLink_v (v : Int) : Bool := decide (v % 8 = 4) && nextB (v / 8)
def nextV_v (v : Int) : Int := if isLink_v v = true then v / 8 else 0
set_option maxHeartbeats 1000000 in
theorem read_any_v (v : Int) (w : World) :
    Calls Tryd.prog 19 #[.int .i64 v] w fun e w' => e = .returned (.tuple #[.agg #[.int .i64 (mkK_v (v % 8 + 1) (v / 8)), .int .i64 (mkN_v (v % 8 + 1) (v / 8))], .bool (validB_v (v % 8 + 1) (v / 8))]) ∧ Below w.heap.size w w' := by
  obtain ⟨t, ht⟩ : ∃ t, t = v % 8 := ⟨_, rfl⟩
  obtain ⟨b, hb⟩ : ∃ b, b = v / 8 := ⟨_, rfl⟩
  have hs := hid_mk (fun w => split_any_v v w)
  rw [← ht, ← hb] at hs ⊢
  have t1 : 0 ≤ t := by omega
  have t2 : t < 8 := by omega
  clear ht hb
  have b1 : Below w.heap.size w (w.alloc (.cells #[.int .i64 0, .int .i64 0] 31)) := (Below.refl _ _).alloc (Nat.le_refl _) _
  have b2 := b1.alloc b1.size (.cells #[.int .i64 (t + 1), .int .i64 b] 31)
  have HB := hid_mk b2
  have V0 := hid_mk ((VC_v.new w 0 0).alloc (.cells #[.int .i64 (t + 1), .int .i64 b] 31))
  have V1 : Hid (VC_v ((w.alloc (.cells #[.int .i64 0, .int .i64 0] 31)).alloc (.cells #[.int .i64 (t + 1), .int .i64 b] 31)) (w.heap.size + 1) (t + 1) b) := heap_alloc2_new _ _ _
  clear b1 b2
  by_cases hv : validB_v (t + 1) b = true
  · go_enter Tryd.func19, Tryd.ntmps19
    go_wp2_with (go_at_call 37; refine calls_same (hs.out _) ?_)
    refine (valid_any_v (t + 1) b _).mono ?_
    rintro e w1 ⟨rfl, hg⟩
    rw [hv]
    have g0 := hid_mk (V0.out.kept hg)
    have g1 := V1.out.kept hg
    have hb := HB.out.trans (hg.mono HB.out.size)
    clear hg HB V0 V1
    obtain ⟨x0, x1, x2, x3⟩ := g0.out.facts
    obtain ⟨x4, x5, x6, x7⟩ := g1.facts
    go_wp2_with fail
    refine retVal2_v Tryd.results19 rfl rfl rfl (g0.out.set (t + 1) b) ⟨?_, ?_⟩
    · rw [mk_yes_v hv, hv]; rfl
    · exact (hb.setCell (Nat.le_refl _) _).setCell (Nat.le_refl _) _
  · have hv' := Bool.eq_false_iff.mpr hv
    clear hv
    go_enter Tryd.func19, Tryd.ntmps19
    go_wp2_with (go_at_call 37; refine calls_same (hs.out _) ?_)
    refine (valid_any_v (t + 1) b _).mono ?_
    rintro e w1 ⟨rfl, hg⟩
    rw [hv']
    have g0 := hid_mk (V0.out.kept hg)
    have g1 := V1.out.kept hg
    have hb := HB.out.trans (hg.mono HB.out.size)
    clear hg HB V0 V1
    obtain ⟨x0, x1, x2, x3⟩ := g0.out.facts
    obtain ⟨x4, x5, x6, x7⟩ := g1.facts
    go_wp2_with fail
    refine retVal2_v Tryd.results19 rfl rfl rfl (g0.out.set 0 0) ⟨?_, ?_⟩
    · rw [mk_no_v hv', hv']; rfl
    · exact (hb.setCell (Nat.le_refl _) _).setCell (Nat.le_refl _) _

end Go.Proofs.YtcpignkjlnjjmaaDoor
