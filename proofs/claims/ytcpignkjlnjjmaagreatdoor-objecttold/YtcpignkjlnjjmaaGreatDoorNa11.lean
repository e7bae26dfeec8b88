import Derived.Test.YtcpignkjlnjjmaaGreatDoorNa02
import Derived.WalkKit
import Derived.Carry
import Derived.Test.YtcpignkjlnjjmaaGreatDoorNa04
import Derived.Lib.SmallJoins
import Derived.Deep.AppendLies
import Derived.Deep.Slices
import Derived.OwnWalk
import Derived.ArgAppend
import Derived.Deep.DeepAppendRoom
namespace Go.Proofs.YtcpignkjlnjjmaaGreatDoor
open Go.RowKit
set_option linter.unusedVariables false
set_option linter.unusedSimpArgs false


theorem ret_val_v {a b : Value} (h : a = b) : Ending.returned a = .returned b := by rw [h]
def fitsB_v (v : Int) : Bool := decide (-1152921504606846976 ≤ v ∧ v ≤ 1152921504606846975)
def scalarB_v (n : Int) : Bool := decide (0 ≤ n ∧ n ≤ 1114111 ∧ (n < 55296 ∨ 57343 < n))
def validB_v (k n : Int) : Bool := decide ((k = 1 ∧ -1152921504606846976 ≤ n ∧ n ≤ 1152921504606846975) ∨ (k = 2 ∧ 0 ≤ n ∧ n ≤ 1152921504606846975) ∨ (k = 3 ∧ 0 ≤ n ∧ n ≤ 5) ∨ (k = 4 ∧ 0 ≤ n ∧ n ≤ 1114111 ∧ (n < 55296 ∨ 57343 < n)))
/-- a value as its struct -/
def val_v (k n : Int) : Value := .agg #[.int .i64 k, .int .i64 n]

theorem fixFits_any_v (v : Int) (w : World) :
    Calls Tryz.prog 80 #[.int .i64 v] w fun e w' => e = .returned (.bool (fitsB_v v)) ∧ w' = w := by
  go_enter Tryz.func80, Tryz.ntmps80
  go_wp2
  all_goals go_ret
  all_goals refine ⟨ret_bool ?_, rfl⟩
  all_goals (unfold fitsB_v; rw [Bool.eq_iff_iff]; simp; try omega)

theorem validRune_any_v (v : Int) (w : World) :
    Calls Tryz.prog 96 #[.int .i32 v] w fun e w' => e = .returned (.bool (scalarB_v v)) ∧ w' = w := by
  have c : (0 ≤ v ∧ v < 55296) ∨ (v < 0) ∨ (55296 ≤ v ∧ v ≤ 57343) ∨ (57343 < v ∧ v ≤ 1114111) ∨ (1114111 < v) := by omega
  rcases c with ⟨c1, c2⟩ | c1 | ⟨c1, c2⟩ | ⟨c1, c2⟩ | c1
  all_goals
    go_enter Tryz.func96, Tryz.ntmps96
    go_wp2
    go_ret
    refine ⟨ret_bool ?_, rfl⟩
    unfold scalarB_v
    first | (symm; rw [decide_eq_true_eq]; omega) | (symm; rw [decide_eq_false_iff_not]; omega)


theorem and_seven_v (b : Int) : bits .and .i64 b 7 = b % 8 := by
  have h : (BitVec.ofInt 64 b &&& BitVec.ofInt 64 7).toNat = (b % 18446744073709551616).toNat % 8 := by
    have e7 : (BitVec.ofInt 64 7).toNat = 2 ^ 3 - 1 := by decide
    rw [BitVec.toNat_and, e7, Nat.and_two_pow_sub_one_eq_mod, ofInt_nat]
  have e : bits .and .i64 b 7 = IntKind.wrap .i64 ((BitVec.ofInt 64 b &&& BitVec.ofInt 64 7).toNat : Nat) := rfl
  rw [e, h]
  simp [IntKind.wrap, IntKind.signed, IntKind.bits]
  omega
theorem ret_tup_v {a b c d : Int} (h1 : a = c) (h2 : b = d) : Ending.returned (.tuple #[.int .i64 a, .int .i64 b]) = .returned (.tuple #[.int .i64 c, .int .i64 d]) := by rw [h1, h2]
theorem split_any_v (v : Int) (w : World) :
    Calls Tryz.prog 60 #[.int .i64 v] w fun e w' => e = .returned (.tuple #[.int .i64 (v / 8), .int .i64 (v % 8)]) ∧ w' = w := by
  have H := hid_mk (and_seven_v v)
  go_enter Tryz.func60, Tryz.ntmps60
  go_wp2
  go_ret2
  exact ⟨ret_tup_v rfl (by first | rfl | exact H.out), rfl⟩


theorem isScalar_any_v (n : Int) (w : World) :
    Calls Tryz.prog 81 #[.int .i64 n] w fun e w' => e = .returned (.bool (scalarB_v n)) ∧ w' = w := by
  go_enter Tryz.func81, Tryz.ntmps81
  go_wp2_with (go_at_call 96; refine calls_same (validRune_any_v _ _) ?_)
  all_goals go_ret
  all_goals refine ⟨ret_bool ?_, rfl⟩
  · rename_i h
    have e : wrap32 n = n := by unfold wrap32 wrap64 at *; omega
    rw [e]
  · rename_i h
    unfold scalarB_v
    symm; rw [decide_eq_false_iff_not]
    unfold wrap32 wrap64 at *; omega


theorem val_cells_v {W : World} {g : Nat} {x y : Int} (h : W.heap[g]? = some (.cells #[.int .i64 x, .int .i64 y] 31 (0, 0))) :
    W.cell? ⟨g, 0, none⟩ = some (.int .i64 x) ∧ W.cell? ⟨g, 1, none⟩ = some (.int .i64 y) := by
  simp [World.cell?, h]
theorem kinds_v (k : Int) : k = 1 ∨ k = 2 ∨ k = 3 ∨ k = 4 ∨ ((k == 1) = false ∧ (k == 2) = false ∧ (k == 3) = false ∧ (k == 4) = false) := by
  simp; omega
theorem valid1_v (n : Int) : validB_v 1 n = fitsB_v n := by unfold validB_v fitsB_v; simp
theorem valid2_v (n : Int) : validB_v 2 n = (decide (0 ≤ n) && fitsB_v n) := by unfold validB_v fitsB_v; rw [Bool.eq_iff_iff]; simp; omega
theorem valid3_v (n : Int) : validB_v 3 n = decide (0 ≤ n ∧ n ≤ 5) := by unfold validB_v; simp
theorem valid4_v (n : Int) : validB_v 4 n = scalarB_v n := by unfold validB_v scalarB_v; simp
theorem valid5_v (k n : Int) (h : (k == 1) = false ∧ (k == 2) = false ∧ (k == 3) = false ∧ (k == 4) = false) : validB_v k n = false := by
  unfold validB_v; simp at h ⊢; omega
set_option maxHeartbeats 1000000 in
theorem valid_any_v (k n : Int) (w : World) :
    Calls Tryz.prog 61 #[val_v k n] w fun e w' => e = .returned (.bool (validB_v k n)) ∧ Below w.heap.size w w' := by
  unfold val_v
  have h0 : Below w.heap.size w (w.alloc (.cells #[.int .i64 k, .int .i64 n] 31)) := (Below.refl _ _).alloc (Nat.le_refl _) _
  have hA := heap_alloc_new w (.cells #[.int .i64 k, .int .i64 n] 31)
  obtain ⟨x0, x1⟩ := val_cells_v hA
  clear hA
  rcases kinds_v k with rfl | rfl | rfl | rfl | hk
  · rw [valid1_v]
    go_enter Tryz.func61, Tryz.ntmps61
    go_wp2_with (go_at_call 80; refine calls_same (fixFits_any_v _ _) ?_)
    go_ret
    exact ⟨rfl, h0⟩
  · rw [valid2_v]
    by_cases hn : 0 ≤ n
    · simp only [hn, decide_true, Bool.true_and]
      go_enter Tryz.func61, Tryz.ntmps61
      go_wp2_with (go_at_call 80; refine calls_same (fixFits_any_v _ _) ?_)
      go_ret
      exact ⟨rfl, h0⟩
    · have hn' : n < 0 := by omega
      simp only [hn, decide_false, Bool.false_and]
      clear hn
      go_enter Tryz.func61, Tryz.ntmps61
      go_wp2_with fail
      go_ret
      exact ⟨rfl, h0⟩
  · rw [valid3_v]
    go_enter Tryz.func61, Tryz.ntmps61
    go_wp2_with fail
    all_goals go_ret
    all_goals refine ⟨ret_bool ?_, h0⟩
    all_goals (rw [Bool.eq_iff_iff]; simp; try omega)
  · rw [valid4_v]
    go_enter Tryz.func61, Tryz.ntmps61
    go_wp2_with (go_at_call 81; refine calls_same (isScalar_any_v _ _) ?_)
    go_ret
    exact ⟨rfl, h0⟩
  · rw [valid5_v k n hk]
    obtain ⟨k1, k2, k3, k4⟩ := hk
    go_enter Tryz.func61, Tryz.ntmps61
    go_wp2_with fail
    go_ret
    exact ⟨rfl, h0⟩


/-- a block that holds one value -/
def VC_v (W : World) (g : Nat) (k n : Int) : Prop := W.heap[g]? = some (.cells #[.int .i64 k, .int .i64 n] 31 (0, 0))
theorem VC_v.kept {W W' : World} {g : Nat} {k n : Int} (h : VC_v W g k n) (hb : Below W.heap.size W W') : VC_v W' g k n := by
  unfold VC_v at *
  rw [← h]; exact hb.block g (Array.getElem?_eq_some_iff.1 h).1
theorem VC_v.facts {W : World} {g : Nat} {k n : Int} (h : VC_v W g k n) :
    W.cell? ⟨g, 0, none⟩ = some (.int .i64 k) ∧ W.cell? ⟨g, 1, none⟩ = some (.int .i64 n) ∧ W.frozen? ⟨g, 0, none⟩ = false ∧ W.frozen? ⟨g, 1, none⟩ = false := by
  unfold VC_v at h
  refine ⟨(val_cells_v h).1, (val_cells_v h).2, ?_, ?_⟩ <;> simp [World.frozen?, h]
theorem VC_v.set {W : World} {g : Nat} {k n : Int} (h : VC_v W g k n) (x y : Int) : VC_v ((W.setCell ⟨g, 0, none⟩ (.int .i64 x)).setCell ⟨g, 1, none⟩ (.int .i64 y)) g x y := by
  unfold VC_v at *
  simp only [World.setCell, Array.getElem?_modify, if_true, h]
  rfl
theorem VC_v.new (W : World) (k n : Int) : VC_v (W.alloc (.cells #[.int .i64 k, .int .i64 n] 31)) W.heap.size k n := heap_alloc_new _ _
theorem VC_v.lt {W : World} {g : Nat} {k n : Int} (h : VC_v W g k n) : g < W.heap.size := (Array.getElem?_eq_some_iff.1 h).1
theorem VC_v.alloc {W : World} {g : Nat} {k n : Int} (h : VC_v W g k n) (o : Obj) : VC_v (W.alloc o) g k n := by
  unfold VC_v; rw [heap_alloc_old _ _ h.lt]; exact h
theorem info2_v : (Tryz.prog.info? 31).map (·.size) = some 2 := by kernel_rfl
theorem retVal_v {fn : Func} {p : Tmp} {a : Act} {w : World} {g : Nat} {k n : Int} {post : Ending → World → Prop} (hr : fn.results = #[.cell p 31]) (hp : a.tmps.getD p undef = .pointer (some ⟨g, 0, none⟩))
    (hd : a.defers = []) (hg : VC_v w g k n) (h : post (.returned (val_v k n)) w) : bodyPost Tryz.prog fn post Exit.ret a w :=
  bodyPost_ret (v := val_v k n) (results_cell_row hr a.tmps _ g 31 _ (0, 0) _ hp hg Tryz.underlying31 rfl info2_v) hd h
theorem retVal2_v {fn : Func} {p u : Tmp} {a : Act} {w : World} {g : Nat} {k n : Int} {v : Value} {post : Ending → World → Prop} (hr : fn.results = #[.cell p 31, .tmp u]) (hp : a.tmps.getD p undef = .pointer (some ⟨g, 0, none⟩)) (hu : a.tmps.getD u undef = v)
    (hd : a.defers = []) (hg : VC_v w g k n) (h : post (.returned (.tuple #[val_v k n, v])) w) : bodyPost Tryz.prog fn post Exit.ret a w := by
  refine bodyPost_ret (v := .tuple #[val_v k n, v]) ?_ hd h
  rw [results_cell_tmp hr, hp]
  simp [asAddr, run_loadVar_row w g 31 31 _ (0, 0) _ hg Tryz.underlying31 rfl info2_v, Result.andThen, val_v]
  simpa using hu

/-- the Kind and the N of what is made -/
def mkK_v (k n : Int) : Int := if validB_v k n = true then k else 0
def mkN_v (k n : Int) : Int := if validB_v k n = true then n else 0
theorem mk_yes_v {k n : Int} (h : validB_v k n = true) : val_v k n = .agg #[.int .i64 (mkK_v k n), .int .i64 (mkN_v k n)] := by unfold mkK_v mkN_v val_v; rw [if_pos h, if_pos h]
theorem mk_no_v {k n : Int} (h : validB_v k n = false) : val_v 0 0 = .agg #[.int .i64 (mkK_v k n), .int .i64 (mkN_v k n)] := by
  unfold mkK_v mkN_v val_v; rw [h]; rfl
set_option maxHeartbeats 1000000 in
theorem made_any_v (k n : Int) (w : World) :
    Calls Tryz.prog 54 #[.int .i64 k, .int .i64 n] w fun e w' => e = .returned (.agg #[.int .i64 (mkK_v k n), .int .i64 (mkN_v k n)]) ∧ Below w.heap.size w w' := by
  have b1 : Below w.heap.size w (w.alloc (.cells #[.int .i64 0, .int .i64 0] 31)) := (Below.refl _ _).alloc (Nat.le_refl _) _
  have b2 := b1.alloc b1.size (.cells #[.int .i64 k, .int .i64 n] 31)
  have HB := hid_mk b2
  have V0 := hid_mk ((VC_v.new w 0 0).alloc (.cells #[.int .i64 k, .int .i64 n] 31))
  have V1 : Hid (VC_v ((w.alloc (.cells #[.int .i64 0, .int .i64 0] 31)).alloc (.cells #[.int .i64 k, .int .i64 n] 31)) (w.heap.size + 1) k n) := heap_alloc2_new _ _ _
  clear b1 b2
  by_cases hv : validB_v k n = true
  · go_enter Tryz.func54, Tryz.ntmps54
    go_wp2_with fail
    refine (valid_any_v k n _).mono ?_
    rintro e w1 ⟨rfl, hg⟩
    rw [hv]
    have g0 := hid_mk (V0.out.kept hg)
    have g1 := V1.out.kept hg
    have hb := HB.out.trans (hg.mono HB.out.size)
    clear hg HB V0 V1
    obtain ⟨x0, x1, x2, x3⟩ := g0.out.facts
    obtain ⟨x4, x5, x6, x7⟩ := g1.facts
    go_wp2_with fail
    refine retVal_v Tryz.results54 rfl rfl (g0.out.set k n) ⟨?_, ?_⟩
    · exact ret_val_v (mk_yes_v hv)
    · exact (hb.setCell (Nat.le_refl _) _).setCell (Nat.le_refl _) _
  · have hv' := Bool.eq_false_iff.mpr hv
    clear hv
    go_enter Tryz.func54, Tryz.ntmps54
    go_wp2_with fail
    refine (valid_any_v k n _).mono ?_
    rintro e w1 ⟨rfl, hg⟩
    rw [hv']
    have g0 := hid_mk (V0.out.kept hg)
    have g1 := V1.out.kept hg
    have hb := HB.out.trans (hg.mono HB.out.size)
    clear hg HB V0 V1
    obtain ⟨x0, x1, x2, x3⟩ := g0.out.facts
    obtain ⟨x4, x5, x6, x7⟩ := g1.facts
    go_wp2_with fail
    refine retVal_v Tryz.results54 rfl rfl (g0.out.set 0 0) ⟨?_, ?_⟩
    · exact ret_val_v (mk_no_v hv')
    · exact (hb.setCell (Nat.le_refl _) _).setCell (Nat.le_refl _) _

theorem refr_any_v (n : Int) (w : World) : Calls Tryz.prog 27 #[.int .i64 n] w fun e w' => e = .returned (.agg #[.int .i64 (mkK_v 2 n), .int .i64 (mkN_v 2 n)]) ∧ Below w.heap.size w w' := by
  have b1 : Below w.heap.size w (w.alloc (.cells #[.int .i64 0, .int .i64 0] 31)) := (Below.refl _ _).alloc (Nat.le_refl _) _
  have V0 := hid_mk (VC_v.new w 0 0)
  go_enter Tryz.func27, Tryz.ntmps27
  go_wp2_with fail
  refine (made_any_v _ _ _).mono ?_
  rintro e w1 ⟨rfl, hg⟩
  have g0 := hid_mk (V0.out.kept hg)
  have hb := b1.trans (hg.mono b1.size)
  clear hg b1 V0
  obtain ⟨x0, x1, x2, x3⟩ := g0.out.facts
  go_wp2_with fail
  exact retVal_v Tryz.results27 rfl rfl (g0.out.set _ _) ⟨rfl, (hb.setCell (Nat.le_refl _) _).setCell (Nat.le_refl _) _⟩
theorem imm_any_v (n : Int) (w : World) : Calls Tryz.prog 59 #[.int .i64 n] w fun e w' => e = .returned (.agg #[.int .i64 (mkK_v 3 n), .int .i64 (mkN_v 3 n)]) ∧ Below w.heap.size w w' := by
  have b1 : Below w.heap.size w (w.alloc (.cells #[.int .i64 0, .int .i64 0] 31)) := (Below.refl _ _).alloc (Nat.le_refl _) _
  have V0 := hid_mk (VC_v.new w 0 0)
  go_enter Tryz.func59, Tryz.ntmps59
  go_wp2_with fail
  refine (made_any_v _ _ _).mono ?_
  rintro e w1 ⟨rfl, hg⟩
  have g0 := hid_mk (V0.out.kept hg)
  have hb := b1.trans (hg.mono b1.size)
  clear hg b1 V0
  obtain ⟨x0, x1, x2, x3⟩ := g0.out.facts
  go_wp2_with fail
  exact retVal_v Tryz.results59 rfl rfl (g0.out.set _ _) ⟨rfl, (hb.setCell (Nat.le_refl _) _).setCell (Nat.le_refl _) _⟩


def wordV_v (k n : Int) : Int := if validB_v k n = true then n * 8 + (k - 1) else 0
theorem valid_range_v {k n : Int} (h : validB_v k n = true) : 1 ≤ k ∧ k ≤ 4 ∧ -1152921504606846976 ≤ n ∧ n ≤ 1152921504606846975 := by
  unfold validB_v at h; rw [decide_eq_true_eq] at h; omega
set_option maxHeartbeats 1000000 in
theorem word_any_v (k n : Int) (w : World) :
    Calls Tryz.prog 39 #[val_v k n] w fun e w' => e = .returned (.tuple #[.int .i64 (wordV_v k n), .bool (validB_v k n)]) ∧ Below w.heap.size w w' := by
  unfold val_v
  have b1 : Below w.heap.size w (w.alloc (.cells #[.int .i64 k, .int .i64 n] 31)) := (Below.refl _ _).alloc (Nat.le_refl _) _
  have V0 := VC_v.new w k n
  obtain ⟨x0, x1, x2, x3⟩ := V0.facts
  have HV := hid_mk V0
  clear V0
  by_cases hv : validB_v k n = true
  · have hw : wordV_v k n = n * 8 + (k - 1) := by unfold wordV_v; rw [if_pos hv]
    obtain ⟨r1, r2, r3, r4⟩ := valid_range_v hv
    have hj := fun w => join_any n (k - 1) w r3 r4 (by omega) (by omega)
    rw [hw, hv]
    go_enter Tryz.func39, Tryz.ntmps39
    go_wp2_with fail
    refine (valid_any_v k n _).mono ?_
    rintro e w1 ⟨rfl, hg⟩
    rw [hv]
    obtain ⟨x0, x1, x2, x3⟩ := (HV.out.kept hg).facts
    have hb := b1.trans (hg.mono b1.size)
    clear hg b1 HV
    go_wp2_with (go_at_call 62; refine calls_same (hj _) ?_)
    go_ret2
    exact ⟨rfl, hb⟩
  · have hv' := Bool.eq_false_iff.mpr hv
    have hw : wordV_v k n = 0 := by unfold wordV_v; rw [if_neg hv]
    rw [hw, hv']
    clear hv
    go_enter Tryz.func39, Tryz.ntmps39
    go_wp2_with fail
    refine (valid_any_v k n _).mono ?_
    rintro e w1 ⟨rfl, hg⟩
    rw [hv']
    have hb := b1.trans (hg.mono b1.size)
    clear hg b1 HV
    go_wp2_with fail
    go_ret2
    exact ⟨rfl, hb⟩

def lessB_v (a b c d : Int) : Bool := if a = c then decide (b < d) else decide (a < c)


def isLink_v (v : Int) : Bool := decide (v % 8 = 4) && nextB (v / 8)
def nextV_v (v : Int) : Int := if isLink_v v = true then v / 8 else 0
set_option maxHeartbeats 1000000 in
theorem read_any_v (v : Int) (w : World) :
    Calls Tryz.prog 37 #[.int .i64 v] w fun e w' => e = .returned (.tuple #[.agg #[.int .i64 (mkK_v (v % 8 + 1) (v / 8)), .int .i64 (mkN_v (v % 8 + 1) (v / 8))], .bool (validB_v (v % 8 + 1) (v / 8))]) ∧ Below w.heap.size w w' := by
  obtain ⟨t, ht⟩ : ∃ t, t = v % 8 := ⟨_, rfl⟩
  obtain ⟨b, hb⟩ : ∃ b, b = v / 8 := ⟨_, rfl⟩
  have hs := hid_mk (fun w => split_any_v v w)
  rw [← ht, ← hb] at hs ⊢
  have t1 : 0 ≤ t := by omega
  have t2 : t < 8 := by omega
  clear ht hb
  have b1 : Below w.heap.size w (w.alloc (.cells #[.int .i64 0, .int .i64 0] 31)) := (Below.refl _ _).alloc (Nat.le_refl _) _
  have b2 := b1.alloc b1.size (.cells #[.int .i64 (t + 1), .int .i64 b] 31)
  have HB := hid_mk b2
  have V0 := hid_mk ((VC_v.new w 0 0).alloc (.cells #[.int .i64 (t + 1), .int .i64 b] 31))
  have V1 : Hid (VC_v ((w.alloc (.cells #[.int .i64 0, .int .i64 0] 31)).alloc (.cells #[.int .i64 (t + 1), .int .i64 b] 31)) (w.heap.size + 1) (t + 1) b) := heap_alloc2_new _ _ _
  clear b1 b2
  by_cases hv : validB_v (t + 1) b = true
  · go_enter Tryz.func37, Tryz.ntmps37
    go_wp2_with (go_at_call 60; refine calls_same (hs.out _) ?_)
    refine (valid_any_v (t + 1) b _).mono ?_
    rintro e w1 ⟨rfl, hg⟩
    rw [hv]
    have g0 := hid_mk (V0.out.kept hg)
    have g1 := V1.out.kept hg
    have hb := HB.out.trans (hg.mono HB.out.size)
    clear hg HB V0 V1
    obtain ⟨x0, x1, x2, x3⟩ := g0.out.facts
    obtain ⟨x4, x5, x6, x7⟩ := g1.facts
    go_wp2_with fail
    refine retVal2_v Tryz.results37 rfl rfl rfl (g0.out.set (t + 1) b) ⟨?_, ?_⟩
    · rw [mk_yes_v hv, hv]; rfl
    · exact (hb.setCell (Nat.le_refl _) _).setCell (Nat.le_refl _) _
  · have hv' := Bool.eq_false_iff.mpr hv
    clear hv
    go_enter Tryz.func37, Tryz.ntmps37
    go_wp2_with (go_at_call 60; refine calls_same (hs.out _) ?_)
    refine (valid_any_v (t + 1) b _).mono ?_
    rintro e w1 ⟨rfl, hg⟩
    rw [hv']
    have g0 := hid_mk (V0.out.kept hg)
    have g1 := V1.out.kept hg
    have hb := HB.out.trans (hg.mono HB.out.size)
    clear hg HB V0 V1
    obtain ⟨x0, x1, x2, x3⟩ := g0.out.facts
    obtain ⟨x4, x5, x6, x7⟩ := g1.facts
    go_wp2_with fail
    refine retVal2_v Tryz.results37 rfl rfl rfl (g0.out.set 0 0) ⟨?_, ?_⟩
    · rw [mk_no_v hv', hv']; rfl
    · exact (hb.setCell (Nat.le_refl _) _).setCell (Nat.le_refl _) _

end Go.Proofs.YtcpignkjlnjjmaaGreatDoor
namespace Go.Proofs.YtcpignkjlnjjmaaGreatDoor
open Go.RowKit
set_option linter.unusedVariables false
set_option linter.unusedSimpArgs false

theorem visible_any (k : Int) (w : World) : Calls Tryz.prog 79 #[.int .i64 k] w fun e w' => e = .returned (.bool (decide (1 ≤ k) && decide (k ≤ 10))) ∧ w' = w := by
  go_enter Tryz.func79, Tryz.ntmps79
  go_wp2
  all_goals go_ret
  all_goals refine ⟨ret_bool ?_, rfl⟩
  all_goals (rw [Bool.eq_iff_iff]; simp; try omega)
theorem frame_any (i : Int) (w : World) : Calls Tryz.prog 82 #[.int .i64 i] w fun e w' => e = .returned (.int .i64 (frameW i)) ∧ w' = w := by
  go_enter Tryz.func82, Tryz.ntmps82
  go_wp2
  all_goals go_ret
  all_goals refine ⟨ret_int ?_, rfl⟩
  all_goals (unfold frameW; simp [*])
theorem role_any (k i : Int) (w : World) : Calls Tryz.prog 64 #[.int .i64 k, .int .i64 i] w fun e w' => e = .returned (.int .i64 (roleW k i)) ∧ w' = w := by
  have HF := hid_mk (frame_any i)
  go_enter Tryz.func64, Tryz.ntmps64
  go_wp2_with (go_at_call 82; refine calls_same (HF.out _) ?_)
  all_goals go_ret
  all_goals refine ⟨ret_int ?_, rfl⟩
  all_goals (unfold roleW; simp [*]; try (intro hh; omega))

theorem roles_any (k s i : Int) {w : World} (hT : Tab w) (s1 : -9223372036854775808 ≤ s) (s2 : s ≤ 9223372036854775807) :
    Calls Tryz.prog 41 #[.int .i64 k, .int .i64 s, .int .i64 i] w fun e w' => e = .returned (.int .i64 (roleV k s i)) ∧ w' = w := by
  have HF := hid_mk (fits_any k s hT s1 s2)
  have HR := hid_mk (role_any k i)
  clear s1 s2
  by_cases hi : 1 ≤ i
  · by_cases hs : i < s
    · cases hf : fitsB k s
      · have e : roleV k s i = 0 := by unfold roleV; rw [if_neg (by rw [hf]; simp)]
        rw [hf] at HF
        rw [e]
        clear e hf
        go_enter Tryz.func41, Tryz.ntmps41
        go_wp2_with (first | (go_at_call 63; refine calls_same HF.out ?_) | (go_at_call 64; refine calls_same (HR.out _) ?_))
        go_ret
        exact ⟨rfl, rfl⟩
      · have e : roleV k s i = roleW k i := by unfold roleV; rw [if_pos ⟨hf, hi, hs⟩]
        rw [hf] at HF
        rw [e]
        clear e hf
        generalize roleW k i = r at *
        go_enter Tryz.func41, Tryz.ntmps41
        go_wp2_with (first | (go_at_call 63; refine calls_same HF.out ?_) | (go_at_call 64; refine calls_same (HR.out _) ?_))
        go_ret
        exact ⟨rfl, rfl⟩
    · have e : roleV k s i = 0 := by unfold roleV; rw [if_neg (by omega)]
      rw [e]
      clear e
      go_enter Tryz.func41, Tryz.ntmps41
      go_wp2
      go_ret
      exact ⟨rfl, rfl⟩
  · have e : roleV k s i = 0 := by unfold roleV; rw [if_neg (by omega)]
    rw [e]
    clear e
    go_enter Tryz.func41, Tryz.ntmps41
    go_wp2
    go_ret
    exact ⟨rfl, rfl⟩

/-- the words below p whose role is not raw, rising -/
def fl_o (k : Int) (p : Nat) : List Nat := (List.range p).filter fun j => decide (1 ≤ j) && (roleW k j != 1)
theorem fl_one_o (k : Int) : fl_o k 1 = [] := by simp [fl_o, List.range_succ]
theorem fl_in_o {k : Int} {p : Nat} (h : 1 ≤ p) (hr : roleW k p ≠ 1) : fl_o k (p + 1) = fl_o k p ++ [p] := by
  unfold fl_o
  rw [List.range_succ, List.filter_append]
  simp [h, hr]
theorem fl_out_o {k : Int} {p : Nat} (hr : roleW k p = 1) : fl_o k (p + 1) = fl_o k p := by
  unfold fl_o
  rw [List.range_succ, List.filter_append]
  simp [hr]
theorem fl_len_o (k : Int) (p : Nat) : (fl_o k p).length ≤ p := by
  unfold fl_o
  exact Nat.le_trans (List.length_filter_le _ _) (by simp)
def flds_o (k s : Int) : List Nat := if fitsB k s then fl_o k s.toNat else []
def ints_o (l : List Nat) : List Value := l.map (fun (x : Nat) => Value.int .i64 (x : Int))
theorem fits_le_o {k s : Int} (h : fitsB k s = true) : 1 ≤ s ∧ s ≤ 1024 := by
  obtain ⟨hk, a, b, c⟩ := fitsB_iff.1 h
  obtain ⟨j, rfl, j1, j2⟩ := known_nat hk
  obtain ⟨w1, w2, w3, w4, w5, w6, w7⟩ := wd_mo j1 j2
  rcases kinds j1 j2 with rfl | rfl | rfl | rfl | rfl | rfl | rfl | rfl | rfl | rfl | rfl | rfl | rfl <;> (simp [wd, mo, partW] at a b; omega)
theorem info_int_o : (Tryz.prog.info? 3).map (fun i => (i.zero, i.size, i.bytes)) = some (some (.int .i64 0), 1, 8) := by kernel_rfl
theorem own_kept_o {w w' : World} {v : Value} {base k lo hi : Nat} {xs : List Value} {T : TypeId} (h : w.ownsRow base T 1 v k xs) (o : Out lo hi w w') (hd : hi ≤ base) : w'.ownsRow base T 1 v k xs := by
  obtain ⟨hlen, hcase⟩ := h
  refine ⟨hlen, ?_⟩
  rcases hcase with ⟨hv, h0⟩ | ⟨g, cap', cur, rfl, hg1, hg2, hg3⟩
  · exact .inl ⟨hv, h0⟩
  · exact .inr ⟨g, cap', cur, rfl, hg1, o.heap hg2 (.inr (by omega)), hg3⟩
theorem own_out_o {w w' : World} {v : Value} {base k : Nat} {xs : List Value} {T : TypeId} (h : w.ownsRow base T 1 v k xs) (hg : w.grownBy w' v.ownBlock) : Out base w.heap.size w w' :=
  ⟨hg.os, hg.tape, hg.output, hg.size, fun j h1 h2 => hg.block j h1 (fun e => by have := (h.lt j e.symm).1; omega)⟩
theorem info_parts_o {T : TypeId} {z : Value} {a b : Nat} (h : (Tryz.prog.info? T).map (fun i => (i.zero, i.size, i.bytes)) = some (some z, a, b)) : ∃ i, Tryz.prog.info? T = some i ∧ i.zero = some z ∧ i.size = a ∧ i.bytes = b := by
  cases hi : Tryz.prog.info? T with
  | none => rw [hi] at h; cases h
  | some i => rw [hi] at h; simp at h; exact ⟨i, rfl, h.1, h.2.1, h.2.2⟩
/-- the list as an answer -/
def ListIs_o (w : World) (base : Nat) (v : Value) (l : List Nat) : Prop := w.ownsRow base 3 1 v l.length (ints_o l)
theorem ListIs_o.nil (w : World) (base : Nat) : ListIs_o w base (.slice none 0 0) [] := World.ownsRow_nil _ _ _ _
theorem ListIs_o.kept {w w' : World} {base lo hi : Nat} {v : Value} {l : List Nat} (h : ListIs_o w base v l) (o : Out lo hi w w') (hd : hi ≤ base) : ListIs_o w' base v l := own_kept_o h o hd
set_option maxHeartbeats 1000000 in
theorem fields_any_o (k s : Int) {w : World} (hT : Tab w) (s1 : -9223372036854775808 ≤ s) (s2 : s ≤ 9223372036854775807) :
    Calls Tryz.prog 48 #[.int .i64 k, .int .i64 s] w fun e w' => ∃ v, e = .returned v ∧ ListIs_o w' w.heap.size v (flds_o k s) ∧ Out 0 0 w w' := by
  have HF := hid_mk (fits_any k s hT s1 s2)
  clear s1 s2
  cases hf : fitsB k s
  · rw [hf] at HF
    have e : flds_o k s = [] := by unfold flds_o; rw [hf]; rfl
    rw [e]
    clear e hf
    go_enter Tryz.func48, Tryz.ntmps48
    go_wp2_with (go_at_call 63; refine calls_same HF.out ?_)
    go_ret
    exact ⟨_, rfl, ListIs_o.nil _ _, Out.refl _ _ _⟩
  · rw [hf] at HF
    obtain ⟨b1, b2⟩ := fits_le_o hf
    have e : flds_o k s = fl_o k s.toNat := by unfold flds_o; rw [hf]; rfl
    rw [e]
    obtain ⟨q, rfl⟩ : ∃ q : Nat, s = q := ⟨s.toNat, by omega⟩
    rw [show ((q : Nat) : Int).toNat = q from by omega]
    have HR := hid_mk (role_any k)
    obtain ⟨i0, hi0, hz0, hz1, hz2⟩ := info_parts_o info_int_o
    have HQ : Hid (1 ≤ q ∧ q ≤ 1024) := by show _ ∧ _; omega
    clear e hf b1 b2
    go_enter Tryz.func48, Tryz.ntmps48
    go_wp2_with (go_at_call 63; refine calls_same HF.out ?_)
    go_loopw [5, 6] (fun o x wr => ∃ p : Nat, 1 ≤ p ∧ p ≤ q ∧ x = .int .i64 p ∧ ListIs_o wr w.heap.size o (fl_o k p) ∧ Out 0 0 w wr) (fun _ x _ => q - (intOf x).toNat)
    case atStart => exact ⟨1, Nat.le_refl _, HQ.out.1, rfl, by rw [fl_one_o]; exact ListIs_o.nil _ _, Out.refl _ _ _⟩
    case round =>
      obtain ⟨p, p1, p2, rfl, hl, ho⟩ := hrel
      have HL := hid_mk hl
      have HO := hid_mk ho
      have p0 : (0 : Int) ≤ (p : Int) := by omega
      have HP := hid_mk p1
      clear hl ho p1
      by_cases hgo : p < q
      · have g1 : (p : Int) < (q : Int) := by omega
        have g2 : (q : Int) ≤ 1024 := by have := HQ.out; omega
        obtain ⟨r, hr⟩ : ∃ r, roleW k p = r := ⟨_, rfl⟩
        have HRp := hid_mk (fun w => role_any k p w)
        rw [hr] at HRp
        by_cases h1 : r = 1
        · have hn : (r != 1) = false := by simp [h1]
          have HE := hid_mk (fl_out_o (h1 ▸ hr))
          clear hr h1
          go_wp2_with (go_at_call 64; refine calls_same (HRp.out _) ?_)
          go_roundw
          case rel => exact ⟨p + 1, by omega, by omega, by go_num, by rw [HE.out]; exact HL.out, HO.out⟩
          case measure => simp [intOf]; omega
        · have hn : (r != 1) = true := by simp [h1]
          have HE := hid_mk (fl_in_o HP.out (by rw [hr]; exact h1))
          clear hr h1
          have HW : Hid (w.heap.size ≤ wr.heap.size) := HO.out.size
          go_wp2_with (first | (go_at_call 64; refine calls_same (HRp.out _) ?_) | (at_builtin; refine wpList_append_lies _ rfl _ _ 39 rfl w.heap.size 3 i0 (.int .i64 0) 1 8 Tryz.underlying39 hi0 hz0 hz1 hz2 rfl (by decide) _ _ _ rfl (HL.out.kept ((Out.refl 0 0 _).alloc _) (Nat.zero_le _)) ⟨wr.heap.size, 0, none⟩ 1 1 [.int .i64 p] rfl rfl (cell_one_new _ _ _) ?c2 (by decide) ?c3 ?c4 ?c5 _ rfl ?_))
          case c2 => intro u hu; simp at hu; subst hu; rfl
          case c3 => unfold maxLen; have := fl_len_o k p; omega
          case c4 => have := fl_len_o k p; omega
          case c5 => have := HW.out; simp; omega
          intro g cap w1 hown hgrow hat hlt
          have hO1 := own_out_o (HL.out.kept ((Out.refl 0 0 _).alloc _) (Nat.zero_le _)) hgrow
          have HO1 : Hid (Out 0 0 w w1) := (HO.out.trans ((Out.refl 0 0 _).alloc _)).past hO1 (Nat.le_refl _)
          have HL1 : Hid (ListIs_o w1 w.heap.size (.slice (some ⟨g, 0, none⟩) ((fl_o k p).length + 1) cap) (fl_o k (p + 1))) := by
            show World.ownsRow _ _ _ _ _ _ _
            rw [HE.out, List.length_append]
            have : ints_o (fl_o k p ++ [p]) = ints_o (fl_o k p) ++ [.int .i64 p] := by simp [ints_o]
            rw [this]
            exact hown
          generalize (fl_o k p).length + 1 = ln at *
          clear hown hgrow hat hlt hO1
          go_wp2
          go_roundw
          case rel => exact ⟨p + 1, by omega, by omega, by go_num, HL1.out, HO1.out⟩
          case measure => simp [intOf]; omega
      · have g1 : (q : Int) ≤ (p : Int) := by omega
        have : p = q := by omega
        subst this
        clear hgo
        go_wp2
        go_ret
        exact ⟨_, rfl, HL.out, HO.out⟩

end Go.Proofs.YtcpignkjlnjjmaaGreatDoor
