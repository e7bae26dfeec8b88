/- making values -/
import Derived.Test.YtghgpnadikjblabVd
namespace Go.Proofs.Ytghgpnadikjblab
open Go.ChangeShapes Go.WideShapes Go.ChangeAt Go.RowKit
set_option linter.unusedVariables false
set_option linter.unusedSimpArgs false

/-- a block that holds one value -/
def VC (W : World) (g : Nat) (k n : Int) : Prop := W.heap[g]? = some (.cells #[.int .i64 k, .int .i64 n] 23 (0, 0))
theorem VC.kept {W W' : World} {g : Nat} {k n : Int} (h : VC W g k n) (hb : Below W.heap.size W W') : VC W' g k n := by
  unfold VC at *
  rw [← h]; exact hb.block g (Array.getElem?_eq_some_iff.1 h).1
theorem VC.facts {W : World} {g : Nat} {k n : Int} (h : VC W g k n) :
    W.cell? ⟨g, 0, none⟩ = some (.int .i64 k) ∧ W.cell? ⟨g, 1, none⟩ = some (.int .i64 n) ∧ W.frozen? ⟨g, 0, none⟩ = false ∧ W.frozen? ⟨g, 1, none⟩ = false := by
  unfold VC at h
  refine ⟨(val_cells h).1, (val_cells h).2, ?_, ?_⟩ <;> simp [World.frozen?, h]
theorem VC.set {W : World} {g : Nat} {k n : Int} (h : VC W g k n) (x y : Int) : VC ((W.setCell ⟨g, 0, none⟩ (.int .i64 x)).setCell ⟨g, 1, none⟩ (.int .i64 y)) g x y := by
  unfold VC at *
  simp only [World.setCell, Array.getElem?_modify, if_true, h]
  rfl
theorem VC.new (W : World) (k n : Int) : VC (W.alloc (.cells #[.int .i64 k, .int .i64 n] 23)) W.heap.size k n := heap_alloc_new _ _
theorem VC.lt {W : World} {g : Nat} {k n : Int} (h : VC W g k n) : g < W.heap.size := (Array.getElem?_eq_some_iff.1 h).1
theorem VC.alloc {W : World} {g : Nat} {k n : Int} (h : VC W g k n) (o : Obj) : VC (W.alloc o) g k n := by
  unfold VC; rw [heap_alloc_old _ _ h.lt]; exact h
theorem info2 : (Try.prog.info? 23).map (·.size) = some 2 := by kernel_rfl
theorem retVal {fn : Func} {p : Tmp} {a : Act} {w : World} {g : Nat} {k n : Int} {post : Ending → World → Prop} (hr : fn.results = #[.cell p 23]) (hp : a.tmps.getD p undef = .pointer (some ⟨g, 0, none⟩))
    (hd : a.defers = []) (hg : VC w g k n) (h : post (.returned (val k n)) w) : bodyPost Try.prog fn post Exit.ret a w :=
  bodyPost_ret (v := val k n) (results_cell_row hr a.tmps _ g 23 _ (0, 0) _ hp hg Try.underlying23 rfl info2) hd h
theorem retVal2 {fn : Func} {p u : Tmp} {a : Act} {w : World} {g : Nat} {k n : Int} {v : Value} {post : Ending → World → Prop} (hr : fn.results = #[.cell p 23, .tmp u]) (hp : a.tmps.getD p undef = .pointer (some ⟨g, 0, none⟩)) (hu : a.tmps.getD u undef = v)
    (hd : a.defers = []) (hg : VC w g k n) (h : post (.returned (.tuple #[val k n, v])) w) : bodyPost Try.prog fn post Exit.ret a w := by
  refine bodyPost_ret (v := .tuple #[val k n, v]) ?_ hd h
  rw [results_cell_tmp hr, hp]
  simp [asAddr, run_loadVar_row w g 23 23 _ (0, 0) _ hg Try.underlying23 rfl info2, Result.andThen, val]
  simpa using hu

/-- the Kind and the N of what is made -/
def mkK (k n : Int) : Int := if validB k n = true then k else 0
def mkN (k n : Int) : Int := if validB k n = true then n else 0
theorem mk_yes {k n : Int} (h : validB k n = true) : val k n = .agg #[.int .i64 (mkK k n), .int .i64 (mkN k n)] := by unfold mkK mkN val; rw [if_pos h, if_pos h]
theorem mk_no {k n : Int} (h : validB k n = false) : val 0 0 = .agg #[.int .i64 (mkK k n), .int .i64 (mkN k n)] := by
  unfold mkK mkN val; rw [h]; rfl
set_option maxHeartbeats 1000000 in
theorem made_any (k n : Int) (w : World) :
    Calls Try.prog 19 #[.int .i64 k, .int .i64 n] w fun e w' => e = .returned (.agg #[.int .i64 (mkK k n), .int .i64 (mkN k n)]) ∧ Below w.heap.size w w' := by
  have b1 : Below w.heap.size w (w.alloc (.cells #[.int .i64 0, .int .i64 0] 23)) := (Below.refl _ _).alloc (Nat.le_refl _) _
  have b2 := b1.alloc b1.size (.cells #[.int .i64 k, .int .i64 n] 23)
  have HB := hid_mk b2
  have V0 := hid_mk ((VC.new w 0 0).alloc (.cells #[.int .i64 k, .int .i64 n] 23))
  have V1 : Hid (VC ((w.alloc (.cells #[.int .i64 0, .int .i64 0] 23)).alloc (.cells #[.int .i64 k, .int .i64 n] 23)) (w.heap.size + 1) k n) := heap_alloc2_new _ _ _
  clear b1 b2
  by_cases hv : validB k n = true
  · go_enter Try.func19, Try.ntmps19
    go_wp2_with fail
    refine (valid_any k n _).mono ?_
    rintro e w1 ⟨rfl, hg⟩
    rw [hv]
    have g0 := hid_mk (V0.out.kept hg)
    have g1 := V1.out.kept hg
    have hb := HB.out.trans (hg.mono HB.out.size)
    clear hg HB V0 V1
    obtain ⟨x0, x1, x2, x3⟩ := g0.out.facts
    obtain ⟨x4, x5, x6, x7⟩ := g1.facts
    go_wp2_with fail
    refine retVal Try.results19 rfl rfl (g0.out.set k n) ⟨?_, ?_⟩
    · exact ret_val (mk_yes hv)
    · exact (hb.setCell (Nat.le_refl _) _).setCell (Nat.le_refl _) _
  · have hv' := Bool.eq_false_iff.mpr hv
    clear hv
    go_enter Try.func19, Try.ntmps19
    go_wp2_with fail
    refine (valid_any k n _).mono ?_
    rintro e w1 ⟨rfl, hg⟩
    rw [hv']
    have g0 := hid_mk (V0.out.kept hg)
    have g1 := V1.out.kept hg
    have hb := HB.out.trans (hg.mono HB.out.size)
    clear hg HB V0 V1
    obtain ⟨x0, x1, x2, x3⟩ := g0.out.facts
    obtain ⟨x4, x5, x6, x7⟩ := g1.facts
    go_wp2_with fail
    refine retVal Try.results19 rfl rfl (g0.out.set 0 0) ⟨?_, ?_⟩
    · exact ret_val (mk_no hv')
    · exact (hb.setCell (Nat.le_refl _) _).setCell (Nat.le_refl _) _

theorem fix_any (n : Int) (w : World) : Calls Try.prog 15 #[.int .i64 n] w fun e w' => e = .returned (.agg #[.int .i64 (mkK 1 n), .int .i64 (mkN 1 n)]) ∧ Below w.heap.size w w' := by
  have b1 : Below w.heap.size w (w.alloc (.cells #[.int .i64 0, .int .i64 0] 23)) := (Below.refl _ _).alloc (Nat.le_refl _) _
  have V0 := hid_mk (VC.new w 0 0)
  go_enter Try.func15, Try.ntmps15
  go_wp2_with fail
  refine (made_any _ _ _).mono ?_
  rintro e w1 ⟨rfl, hg⟩
  have g0 := hid_mk (V0.out.kept hg)
  have hb := b1.trans (hg.mono b1.size)
  clear hg b1 V0
  obtain ⟨x0, x1, x2, x3⟩ := g0.out.facts
  go_wp2_with fail
  exact retVal Try.results15 rfl rfl (g0.out.set _ _) ⟨rfl, (hb.setCell (Nat.le_refl _) _).setCell (Nat.le_refl _) _⟩
end Go.Proofs.Ytghgpnadikjblab
