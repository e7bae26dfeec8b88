/- the walks of Ar -/
import Derived.Test.YteepkghjphmegabRw
import Derived.Test.YteepkghjphmegabM1
import Derived.BigQuiet
import Derived.Laws.CopyOwn
import Derived.Deep.QuietTactic
namespace Go.Proofs.Yteepkghjphmegab
open Go.ChangeShapes Go.WideShapes Go.ChangeAt Go.RowKit
set_option linter.unusedVariables false
set_option linter.unusedSimpArgs false

def arr (f : Nat → Int) : Array Value := ((List.range 61).map fun i => Value.int .i64 (f i)).toArray
theorem arr_size (f : Nat → Int) : (arr f).size = 61 := by simp [arr]
theorem arr_get (f : Nat → Int) (k : Nat) (h : k < 61) : (arr f)[k]? = some (.int .i64 (f k)) := by simp [arr, h]
theorem arr_congr {f g : Nat → Int} (h : ∀ i, i < 61 → f i = g i) : arr f = arr g := by
  unfold arr; congr 1; apply List.map_congr_left; intro i hi; rw [h i (by simpa using hi)]
theorem arr_one (f : Nat → Int) : (arr f).all (·.oneCell') = true := by
  rw [Array.all_eq_true]; intro i h; simp [arr, Value.oneCell']
def upd (f : Nat → Int) (k : Nat) (v : Int) : Nat → Int := fun j => if j = k then v else f j
theorem arr_set (f : Nat → Int) (k : Nat) (v : Int) : (arr f).setIfInBounds k (.int .i64 v) = arr (upd f k v) := by
  apply Array.ext
  · simp [arr]
  · intro i h1 h2
    have hs : i < 61 := by simpa [arr] using h2
    rw [Array.getElem_setIfInBounds (by simpa [arr] using hs)]
    simp only [arr, List.getElem_toArray, List.getElem_map, List.getElem_range, upd]
    by_cases e : k = i
    · subst e; simp
    · have : ¬ i = k := fun h => e h.symm
      simp [e, this]
theorem arr_zero : arr (fun _ => 0) = #[.int .i64 0, .int .i64 0, .int .i64 0, .int .i64 0, .int .i64 0, .int .i64 0, .int .i64 0, .int .i64 0, .int .i64 0, .int .i64 0, .int .i64 0, .int .i64 0, .int .i64 0, .int .i64 0, .int .i64 0, .int .i64 0, .int .i64 0, .int .i64 0, .int .i64 0, .int .i64 0, .int .i64 0, .int .i64 0, .int .i64 0, .int .i64 0, .int .i64 0, .int .i64 0, .int .i64 0, .int .i64 0, .int .i64 0, .int .i64 0, .int .i64 0, .int .i64 0, .int .i64 0, .int .i64 0, .int .i64 0, .int .i64 0, .int .i64 0, .int .i64 0, .int .i64 0, .int .i64 0, .int .i64 0, .int .i64 0, .int .i64 0, .int .i64 0, .int .i64 0, .int .i64 0, .int .i64 0, .int .i64 0, .int .i64 0, .int .i64 0, .int .i64 0, .int .i64 0, .int .i64 0, .int .i64 0, .int .i64 0, .int .i64 0, .int .i64 0, .int .i64 0, .int .i64 0, .int .i64 0, .int .i64 0] := by rfl

/-- block g of the world W holds the array f -/
def Blk (W : World) (g : Nat) (f : Nat → Int) : Prop := W.heap[g]? = some (.cells (arr f) 55 (0, 0))
theorem Blk.congr {W : World} {g : Nat} {f h : Nat → Int} (b : Blk W g f) (e : ∀ i, i < 61 → f i = h i) : Blk W g h := by
  unfold Blk at *; rw [← arr_congr e]; exact b
theorem Blk.lt {W : World} {g : Nat} {f : Nat → Int} (b : Blk W g f) : g < W.heap.size := by
  unfold Blk at b
  by_cases h : g < W.heap.size
  · exact h
  · rw [Array.getElem?_eq_none (by omega)] at b; cases b
theorem Blk.cell {W : World} {g : Nat} {f : Nat → Int} (b : Blk W g f) {k : Nat} (h : k < 61) : W.cell? ⟨g, k, none⟩ = some (.int .i64 (f k)) := by
  unfold Blk at b; rw [cell_of_row W g k _ _ _ b]; exact arr_get f k h
theorem Blk.frozen {W : World} {g : Nat} {f : Nat → Int} (b : Blk W g f) (k : Nat) : W.frozen? ⟨g, k, none⟩ = false := by
  unfold Blk at b; simp [World.frozen?, b]
theorem Blk.new (W : World) (f : Nat → Int) : Blk (W.alloc (.cells (arr f) 55)) W.heap.size f := heap_alloc_new _ _
theorem Blk.alloc {W : World} {g : Nat} {f : Nat → Int} (b : Blk W g f) (o : Obj) : Blk (W.alloc o) g f := by
  have := b.lt
  unfold Blk at *; rw [heap_alloc_old _ _ this]; exact b
theorem Blk.drew {W : World} {g : Nat} {f : Nat → Int} (b : Blk W g f) : Blk W.drew g f := b
theorem Blk.set {W : World} {g : Nat} {f : Nat → Int} (b : Blk W g f) (k : Nat) (v : Int) : Blk (W.setCell ⟨g, k, none⟩ (.int .i64 v)) g (upd f k v) := by
  unfold Blk at *
  rw [setCell_eq_setRow W g k _ _ _ _ b, arr_set]
  exact setRow_heap W g _ _ _ _ b
theorem Blk.setOther {W : World} {g : Nat} {f : Nat → Int} (b : Blk W g f) {a : Addr} (h : g ≠ a.block) (v : Value) : Blk (W.setCell a v) g f := by
  unfold Blk at *; rw [Below.heap_setCell W a v g h]; exact b
theorem Blk.below {W W' : World} {g : Nat} {f : Nat → Int} (b : Blk W g f) {B : Nat} (h : Below B W W') (hg : g < B) : Blk W' g f := by
  unfold Blk at *; rw [← b]; exact h.block g hg
theorem Blk.setRow {W : World} {g : Nat} {f : Nat → Int} (b : Blk W g f) (h : Nat → Int) : Blk (W.setRow g (arr h)) g h := by
  unfold Blk at *; exact setRow_heap W g _ _ _ _ b
theorem Blk.setRowOther {W : World} {g k : Nat} {f : Nat → Int} (b : Blk W g f) (e : g ≠ k) (cs : Array Value) : Blk (W.setRow k cs) g f := by
  unfold Blk at *; rw [setRow_other W k g cs e]; exact b

theorem info61 : (Try.prog.info? 55).map (·.size) = some 61 := by kernel_rfl
theorem info61' (f : Nat → Int) : (Try.prog.info? 55).map (·.size) = some (arr f).size := by rw [arr_size]; exact info61
theorem load61 {ops : Array Oper} {rest : List Oper} {o : Oper} {a : Act} {w : World} {Q : Exit → Act → World → Prop} (hgd : o.guard = none) (x : Operand) (ho : o.op = .load 55 x)
    (g : Nat) (hx : a.eval x = .pointer (some ⟨g, 0, none⟩)) (f : Nat → Int) (b : Blk w g f)
    (h : wpList Try.prog ops Q rest (a.put o.dst (.agg (arr f))) w) : wpList Try.prog ops Q (o :: rest) a w :=
  wpList_load_row hgd 55 x ho g hx 55 (arr f) (0, 0) _ b Try.underlying55 rfl (info61' f) h
theorem store61 {ops : Array Oper} {rest : List Oper} {o : Oper} {a : Act} {w : World} {Q : Exit → Act → World → Prop} (hgd : o.guard = none) (x y : Operand) (ho : o.op = .store 55 x y)
    (g : Nat) (hx : a.eval x = .pointer (some ⟨g, 0, none⟩)) (f : Nat → Int) (hy : a.eval y = .agg (arr f)) (f0 : Nat → Int) (b : Blk w g f0)
    (h : wpList Try.prog ops Q rest (a.put o.dst undef) (w.setRow g (arr f))) : wpList Try.prog ops Q (o :: rest) a w :=
  wpList_store_row hgd 55 x y ho g (arr f) hx hy 55 (arr f0) b (info61' f) (by rw [arr_size, arr_size]) (arr_one f) h

theorem zero61 : (Try.prog.info? 55).map (·.zero) = some (some (.agg (arr (fun _ => 0)))) := by kernel_rfl
theorem alloc61 {ops : Array Oper} {rest : List Oper} {o : Oper} {a : Act} {w : World} {Q : Exit → Act → World → Prop} (hgd : o.guard = none) (ho : o.op = .alloc 55)
    (h : wpList Try.prog ops Q rest (a.put o.dst (.pointer (some ⟨w.heap.size, 0, none⟩))) (w.alloc (.cells (arr (fun _ => 0)) 55))) : wpList Try.prog ops Q (o :: rest) a w :=
  wpList_plain hgd fun _ hK => by
    have hz : (zeroValue 55).run Try.prog w = .ok (.agg (arr (fun _ => 0))) w := by
      have := zero61
      cases hq : Try.prog.info? 55 with
      | none => simp [hq] at this
      | some i => simp [hq] at this; simp [zeroValue, typeInfo, hq, this]
    unfold Oper.wp execOp
    simp only [ho, Instr.alloc, Sem.run_bind, hz, Result.andThen_ok]
    simp [newVar, newRow, Value.cells]
    exact hK _ _ h
theorem below_drewN {B : Nat} {a w : World} (h : Below B a w) (n : Nat) : Below B a (w.drewN n) := ⟨h.os, h.tape, h.output, h.size, h.block⟩
theorem below_setRow' {B g : Nat} {w0 w : World} (hb : Below B w0 w) (hBg : B ≤ g) (cs : Array Value) : Below B w0 (w.setRow g cs) := below_setRow hb hBg cs
theorem Blk.drewN {W : World} {g : Nat} {f : Nat → Int} (b : Blk W g f) (n : Nat) : Blk (W.drewN n) g f := b
theorem ret61 {fn : Func} {p : Tmp} (hr : fn.results = #[.cell p 55]) {a : Act} {w : World} {g : Nat} {f : Nat → Int} {post : Ending → World → Prop} (hp : a.tmps.getD p undef = .pointer (some ⟨g, 0, none⟩))
    (hd : a.defers = []) (b : Blk w g f) (h : post (.returned (.agg (arr f))) w) : bodyPost Try.prog fn post Exit.ret a w :=
  bodyPost_ret (v := .agg (arr f)) (results_cell_row hr a.tmps w g 55 (arr f) (0, 0) _ hp b Try.underlying55 rfl (info61' f)) hd h

/-- F below k, G from k on -/
def mix (k : Nat) (F G : Nat → Int) : Nat → Int := fun j => if j < k then F j else G j
theorem mix_step (k : Nat) (F G : Nat → Int) (v : Int) (h : v = F k) (i : Nat) : upd (mix k F G) k v i = mix (k + 1) F G i := by
  unfold upd mix
  by_cases e : i = k
  · subst e; simp [h]
  · by_cases l : i < k
    · have : i < k + 1 := by omega
      simp [e, l, this]
    · have : ¬ i < k + 1 := by omega
      simp [e, l, this]
theorem mix_zero (F G : Nat → Int) (i : Nat) : mix 0 F G i = G i := by simp [mix]
theorem mix_all (F G : Nat → Int) (i : Nat) (h : i < 61) : mix 61 F G i = F i := by simp [mix, h]

theorem pow_le60 (k : Nat) (h : k ≤ 60) : (2 : Int) ^ k ≤ 1152921504606846976 := by
  have : (2 : Int) ^ k ≤ 2 ^ 60 := by
    have := Nat.pow_le_pow_right (n := 2) (by decide) h
    exact_mod_cast this
  simpa using this

/-- the fixnum of the bits of v -/
theorem num_step (v : Int) (k : Nat) : v % 2 ^ k + bit v k * 2 ^ k = v % 2 ^ (k + 1) := by rw [mod_succ, Int.mul_comm]
theorem num_end (v : Int) : (if bit v 60 = 1 then v % 2 ^ 60 - 1152921504606846975 - 1 else v % 2 ^ 60) = fwrap v := by
  have e : (2 : Int) ^ 60 = 1152921504606846976 := by decide
  unfold bit fwrap; rw [e]; split <;> omega

set_option maxHeartbeats 400000 in
theorem refNumber_any (v : Int) (w : World) :
    Calls Try.prog 64 #[.agg (arr (bit v))] w fun e w' => e = .returned (.int .i64 (fwrap v)) ∧ w' = w.alloc (.cells (arr (bit v)) 55) := by
  have hB := Blk.new w (bit v)
  go_enter Try.func64, Try.ntmps64
  go_wp2
  go_loop [3, 4, 5] (fun n u i => ∃ k : Nat, k ≤ 60 ∧ i = .int .i64 k ∧ n = .int .i64 (v % 2 ^ k) ∧ u = .int .i64 (2 ^ k)) (fun _ _ i => 60 - (intOf i).toNat)
  case atStart => exact ⟨0, by omega, rfl, by simp [Int.emod_one], rfl⟩
  case round =>
    obtain ⟨k, hk, rfl, rfl, rfl⟩ := hrel
    have hp := pow_pos' k
    have hle := pow_le60 k hk
    have h1 := Int.emod_nonneg v (Int.ne_of_gt hp)
    have h2 := Int.emod_lt_of_pos v hp
    by_cases hlt : k < 60
    · have hc := hB.cell (k := k) (by omega)
      have hst := num_step v k
      have h01 := bit_01 v k
      have hm0 : 0 ≤ bit v k * 2 ^ k := Int.mul_nonneg h01.1 (by omega)
      have hm1 : bit v k * 2 ^ k ≤ 1152921504606846976 := by
        have : bit v k = 0 ∨ bit v k = 1 := by omega
        rcases this with e | e <;> rw [e] <;> omega
      have S : Hid (v % 2 ^ k + bit v k * 2 ^ k = v % 2 ^ (k + 1)) := hst
      have P2 : Hid ((2 : Int) ^ k + 2 ^ k = 2 ^ (k + 1)) := by show (2 : Int) ^ k + 2 ^ k = 2 ^ (k + 1); rw [pow_succ']; omega
      clear hst
      go_wp2
      go_round
      case rel => exact ⟨k + 1, by omega, by go_num, congrArg (Value.int .i64) S.out, congrArg (Value.int .i64) P2.out⟩
      case measure => simp [intOf]; omega
    · have hc := hB.cell (k := 60) (by omega)
      have E : Hid ((if bit v 60 = 1 then v % 2 ^ k - 1152921504606846975 - 1 else v % 2 ^ k) = fwrap v) := by
        have : k = 60 := by omega
        subst this; exact num_end v
      by_cases hb : bit v 60 = 1
      · go_wp2
        go_ret
        exact ⟨ret_int (by rw [← E.out, if_pos hb]), rfl⟩
      · have hb' : (bit v 60 == 1) = false := by simpa using hb
        go_wp2
        go_ret
        exact ⟨ret_int (by rw [← E.out, if_neg hb]), rfl⟩
end Go.Proofs.Yteepkghjphmegab
