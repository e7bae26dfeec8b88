/- package show: blocks, and the walk's leaves -/
import Derived.Test.YtmfnkhonghemeaaDoorIb
import Derived.Test.YtmfnkhonghemeaaDoorTl
import Derived.Laws.ResultCell
import Derived.Laws.Rows
namespace Go.Proofs.YtmfnkhonghemeaaDoor
open Go.RowKit
set_option linter.unusedVariables false
set_option linter.unusedSimpArgs false

/-- block p holds these cells -/
def Bl (W : World) (p : Nat) (cs : Array Value) (T : TypeId) : Prop := W.heap[p]? = some (.cells cs T (0, 0))
section
variable {W W' : World} {p lo hi : Nat} {cs : Array Value} {T : TypeId}
theorem Bl.cell (h : Bl W p cs T) {i : Nat} {v : Value} (hi : cs[i]? = some v) : W.cell? ⟨p, i, none⟩ = some v := by
  unfold Bl at h; simp [World.cell?, h, hi]
theorem Bl.frozen (h : Bl W p cs T) (i : Nat) : W.frozen? ⟨p, i, none⟩ = false := by
  unfold Bl at h; simp [World.frozen?, h]
theorem Bl.lt (h : Bl W p cs T) : p < W.heap.size := heap_lt h
theorem Bl.kept (h : Bl W p cs T) (g : Out lo hi W W') (h2 : p < lo ∨ hi ≤ p) : Bl W' p cs T := g.heap h h2
theorem Bl.alloc (h : Bl W p cs T) (o : Obj) : Bl (W.alloc o) p cs T := by
  have hl := h.lt
  unfold Bl at *; rw [heap_alloc_old _ _ hl]; exact h
theorem Bl.new (W : World) (cs : Array Value) (T : TypeId) : Bl (W.alloc (.cells cs T)) W.heap.size cs T := heap_alloc_new _ _
theorem Bl.set (h : Bl W p cs T) (i : Nat) (v : Value) : Bl (W.setCell ⟨p, i, none⟩ v) p (cs.setIfInBounds i v) T := by
  unfold Bl at *
  simp only [World.setCell, Array.getElem?_modify, if_true, h]
  rfl
theorem Bl.other (h : Bl W p cs T) {q : Addr} (hq : q.block ≠ p) (v : Value) : Bl (W.setCell q v) p cs T := by
  unfold Bl at *
  rw [← h]
  simp [World.setCell, Array.getElem?_modify, hq]
end
theorem size_alloc (W : World) (o : Obj) : (W.alloc o).heap.size = W.heap.size + 1 := by show (W.heap.push o).size = _; simp
theorem size_set (W : World) (a : Addr) (v : Value) : (W.setCell a v).heap.size = W.heap.size := by simp [World.setCell]

/-- block p holds a walk -/
def WK (W : World) (p : Nat) (hv mv tv : Value) (n : Int) : Prop := Bl W p #[hv, mv, tv, .int .i64 n] 53
theorem infoF (x y : Int) : (Tryd.prog.info? 38).map (·.size) = some (#[Value.int .i64 x, Value.int .i64 y] : Array Value).size := by kernel_rfl
theorem load_flt {w : World} {g : Nat} {x y : Int} (hg : Bl w g #[.int .i64 x, .int .i64 y] 38) : (loadVar 38 ⟨g, 0, none⟩).run Tryd.prog w = .ok (.agg #[.int .i64 x, .int .i64 y]) w :=
  run_loadVar_row w g 38 38 _ (0, 0) _ hg Tryd.underlying38 rfl (infoF x y)
/-- a result, and a fault that lies in a cell -/
theorem retTF {fn : Func} {p u : Tmp} {a : Act} {w : World} {g : Nat} {x y : Int} {v : Value} {post : Ending → World → Prop} (hr : fn.results = #[.tmp u, .cell p 38]) (hp : a.tmps.getD p undef = .pointer (some ⟨g, 0, none⟩)) (hu : a.tmps.getD u undef = v)
    (hd : a.defers = []) (hg : Bl w g #[.int .i64 x, .int .i64 y] 38) (h : post (.returned (.tuple #[v, .agg #[.int .i64 x, .int .i64 y]])) w) : bodyPost Tryd.prog fn post Exit.ret a w := by
  refine bodyPost_ret (v := .tuple #[v, .agg #[.int .i64 x, .int .i64 y]]) ?_ hd h
  have hp' : a.tmps[p]?.getD undef = .pointer (some ⟨g, 0, none⟩) := by simpa using hp
  have hu' : a.tmps[u]?.getD undef = v := by simpa using hu
  simp only [results, hr]
  simp [Sem.run_bind, hp', hu', asAddr, load_flt hg, Result.andThen]
/-- a fault that lies in a cell -/
theorem retF {fn : Func} {p : Tmp} {a : Act} {w : World} {g : Nat} {x y : Int} {post : Ending → World → Prop} (hr : fn.results = #[.cell p 38]) (hp : a.tmps.getD p undef = .pointer (some ⟨g, 0, none⟩))
    (hd : a.defers = []) (hg : Bl w g #[.int .i64 x, .int .i64 y] 38) (h : post (.returned (.agg #[.int .i64 x, .int .i64 y])) w) : bodyPost Tryd.prog fn post Exit.ret a w := by
  refine bodyPost_ret (v := .agg #[.int .i64 x, .int .i64 y]) ?_ hd h
  have hp' : a.tmps[p]?.getD undef = .pointer (some ⟨g, 0, none⟩) := by simpa using hp
  simp only [results, hr]
  simp [Sem.run_bind, hp', asAddr, load_flt hg, Result.andThen]

theorem tooLarge_at {W : World} {p : Nat} {hv mv tv : Value} {n : Int} (h : WK W p hv mv tv n) {b : Bool} (hb : decide (500 < n) = b) :
    Calls Tryd.prog 13 #[.pointer (some ⟨p, 0, none⟩)] W fun e w' => e = .returned (.bool b) ∧ w' = W := by
  have c3 := h.cell (i := 3) rfl
  go_enter Tryd.func13, Tryd.ntmps13
  go_wp2
  go_ret
  refine ⟨ret_bool ?_, rfl⟩
  rw [← hb]
theorem valid_at (k x : Int) (w : World) {b : Bool} (hb : validB_v k x = b) :
    Calls Tryd.prog 24 #[.agg #[.int .i64 k, .int .i64 x]] w fun e w' => e = .returned (.bool b) ∧ Out 0 0 w w' :=
  (valid_any_v k x w).mono fun _ _ ⟨he, hw⟩ => ⟨by rw [he, hb], Out.of_below hw 0 0⟩
theorem wrap_small {n : Int} (h0 : 0 ≤ n) (h1 : n ≤ 1000000) : IntKind.i64.wrap n = n := by
  simp [IntKind.wrap, IntKind.signed, IntKind.bits]; omega

set_option maxHeartbeats 1000000 in
theorem meet_no {W : World} {p : Nat} {hv mv tv : Value} {n : Int} (h : WK W p hv mv tv n) (hn : n < 500) (h0 : 0 ≤ n) (k x : Int) (hx : validB_v k x = false) :
    Calls Tryd.prog 16 #[.pointer (some ⟨p, 0, none⟩), .agg #[.int .i64 k, .int .i64 x]] W fun e w' => e = .returned (.tuple #[.slice none 0 0, .agg #[.int .i64 33, .int .i64 0]]) ∧ WK w' p hv mv tv (n + 1) ∧ Out p (p + 1) W w' := by
  have hl := h.lt
  have hwr := wrap_small (n := n + 1) (by omega) (by omega)
  have hd : decide (500 < n + 1) = false := by simp; omega
  have b1 : WK ((W.alloc (.cells #[.int .i64 k, .int .i64 x] 28)).alloc (.cells #[.int .i64 0, .int .i64 0] 38)) p hv mv tv n := Bl.alloc (Bl.alloc h _) _
  have c3 := b1.cell (i := 3) rfl
  have z3 := b1.frozen 3
  have b0 : WK (W.setCell ⟨p, 3, none⟩ (.int .i64 (n + 1))) p hv mv tv (n + 1) := Bl.set h 3 _
  have b2 : WK (((W.setCell ⟨p, 3, none⟩ (.int .i64 (n + 1))).alloc (.cells #[.int .i64 k, .int .i64 x] 28)).alloc (.cells #[.int .i64 0, .int .i64 0] 38)) p hv mv tv (n + 1) := Bl.alloc (Bl.alloc b0 _) _
  have v2 : Bl (((W.setCell ⟨p, 3, none⟩ (.int .i64 (n + 1))).alloc (.cells #[.int .i64 k, .int .i64 x] 28)).alloc (.cells #[.int .i64 0, .int .i64 0] 38)) W.heap.size #[.int .i64 k, .int .i64 x] 28 := Bl.alloc (size_set W _ _ ▸ Bl.new _ _ _) _
  have f2 : Bl (((W.setCell ⟨p, 3, none⟩ (.int .i64 (n + 1))).alloc (.cells #[.int .i64 k, .int .i64 x] 28)).alloc (.cells #[.int .i64 0, .int .i64 0] 38)) (W.heap.size + 1) #[.int .i64 0, .int .i64 0] 38 := size_set W ⟨p, 3, none⟩ (.int .i64 (n + 1)) ▸ size_alloc (W.setCell ⟨p, 3, none⟩ (.int .i64 (n + 1))) _ ▸ Bl.new _ _ _
  have o2 : Out p (p + 1) W (((W.setCell ⟨p, 3, none⟩ (.int .i64 (n + 1))).alloc (.cells #[.int .i64 k, .int .i64 x] 28)).alloc (.cells #[.int .i64 0, .int .i64 0] 38)) := (((Out.refl _ _ _).setCell (.inl ⟨Nat.le_refl _, Nat.lt_succ_self _⟩) _).alloc _).alloc _
  have x0 := v2.cell (i := 0) rfl
  have x1 := v2.cell (i := 1) rfl
  go_enter Tryd.func16, Tryd.ntmps16
  go_wp2_with (first
    | (go_at_call 13; refine calls_same (tooLarge_at b2 hd) ?_)
    | (go_at_call 24; refine (valid_at _ _ _ hx).mono ?_; rintro e w2 ⟨rfl, hb⟩; have f3 := f2.kept hb (.inr (Nat.zero_le _)); have y0 := f3.cell (i := 0) rfl; have y1 := f3.cell (i := 1) rfl; have y2 := f3.frozen 0; have y3 := f3.frozen 1))
  refine retTF Tryd.results16 rfl rfl rfl (Bl.set (Bl.set f3 0 _) 1 _) ⟨rfl, ?_, ?_⟩
  · exact ((Bl.kept b2 hb (.inr (Nat.zero_le _))).other (by simp; omega) _).other (by simp; omega) _
  · exact ((o2.trans (hb.any _ _)).setCell (.inr (by simp)) _).setCell (.inr (by simp)) _
set_option maxHeartbeats 1000000 in
theorem meet_leaf {W : World} {p : Nat} {hv mv tv : Value} {n : Int} (h : WK W p hv mv tv n) (hn : n < 500) (h0 : 0 ≤ n) (k x : Int) (hx : validB_v k x = true) (hk : k ≠ 2) :
    Calls Tryd.prog 16 #[.pointer (some ⟨p, 0, none⟩), .agg #[.int .i64 k, .int .i64 x]] W fun e w' => e = .returned (.tuple #[.slice none 0 0, .agg #[.int .i64 0, .int .i64 0]]) ∧ WK w' p hv mv tv (n + 1) ∧ Out p (p + 1) W w' := by
  have hl := h.lt
  have hwr := wrap_small (n := n + 1) (by omega) (by omega)
  have hd : decide (500 < n + 1) = false := by simp; omega
  have b1 : WK ((W.alloc (.cells #[.int .i64 k, .int .i64 x] 28)).alloc (.cells #[.int .i64 0, .int .i64 0] 38)) p hv mv tv n := Bl.alloc (Bl.alloc h _) _
  have c3 := b1.cell (i := 3) rfl
  have z3 := b1.frozen 3
  have b0 : WK (W.setCell ⟨p, 3, none⟩ (.int .i64 (n + 1))) p hv mv tv (n + 1) := Bl.set h 3 _
  have b2 : WK (((W.setCell ⟨p, 3, none⟩ (.int .i64 (n + 1))).alloc (.cells #[.int .i64 k, .int .i64 x] 28)).alloc (.cells #[.int .i64 0, .int .i64 0] 38)) p hv mv tv (n + 1) := Bl.alloc (Bl.alloc b0 _) _
  have v2 : Bl (((W.setCell ⟨p, 3, none⟩ (.int .i64 (n + 1))).alloc (.cells #[.int .i64 k, .int .i64 x] 28)).alloc (.cells #[.int .i64 0, .int .i64 0] 38)) W.heap.size #[.int .i64 k, .int .i64 x] 28 := Bl.alloc (size_set W _ _ ▸ Bl.new _ _ _) _
  have f2 : Bl (((W.setCell ⟨p, 3, none⟩ (.int .i64 (n + 1))).alloc (.cells #[.int .i64 k, .int .i64 x] 28)).alloc (.cells #[.int .i64 0, .int .i64 0] 38)) (W.heap.size + 1) #[.int .i64 0, .int .i64 0] 38 := size_set W ⟨p, 3, none⟩ (.int .i64 (n + 1)) ▸ size_alloc (W.setCell ⟨p, 3, none⟩ (.int .i64 (n + 1))) _ ▸ Bl.new _ _ _
  have o2 : Out p (p + 1) W (((W.setCell ⟨p, 3, none⟩ (.int .i64 (n + 1))).alloc (.cells #[.int .i64 k, .int .i64 x] 28)).alloc (.cells #[.int .i64 0, .int .i64 0] 38)) := (((Out.refl _ _ _).setCell (.inl ⟨Nat.le_refl _, Nat.lt_succ_self _⟩) _).alloc _).alloc _
  have x0 := v2.cell (i := 0) rfl
  have x1 := v2.cell (i := 1) rfl
  have hk2 : (k == 2) = false := by simpa using hk
  go_enter Tryd.func16, Tryd.ntmps16
  go_wp2_with (first
    | (go_at_call 13; refine calls_same (tooLarge_at b2 hd) ?_)
    | (go_at_call 24; refine (valid_at _ _ _ hx).mono ?_; rintro e w2 ⟨rfl, hb⟩; have f3 := f2.kept hb (.inr (Nat.zero_le _)); have y0 := f3.cell (i := 0) rfl; have y1 := f3.cell (i := 1) rfl; have y2 := f3.frozen 0; have y3 := f3.frozen 1; have v3 := v2.kept hb (.inr (Nat.zero_le _)); have u0 := v3.cell (i := 0) rfl; have u1 := v3.cell (i := 1) rfl))
  refine retTF Tryd.results16 rfl rfl rfl (Bl.set (Bl.set f3 0 _) 1 _) ⟨rfl, ?_, ?_⟩
  · exact ((Bl.kept b2 hb (.inr (Nat.zero_le _))).other (by simp; omega) _).other (by simp; omega) _
  · exact ((o2.trans (hb.any _ _)).setCell (.inr (by simp)) _).setCell (.inr (by simp)) _
end Go.Proofs.YtmfnkhonghemeaaDoor
