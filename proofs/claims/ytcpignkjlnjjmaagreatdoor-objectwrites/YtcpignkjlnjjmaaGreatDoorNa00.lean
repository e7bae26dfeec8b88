import Derived.WalkKit
import Derived.Carry
import Derived.OwnWalk
import Derived.Deep.RegionHeld3
import Derived.Deep.OwnRows
import Derived.Test.YtcpignkjlnjjmaaGreatDoorRows
import Derived.Test.YtcpignkjlnjjmaaGreatDoorChecked
import Derived.Lib.TrailingZeros
import Derived.Test.YtcpignkjlnjjmaaGreatDoorTie
import Derived.ProofKit
import Derived.LaidMore
import Derived.OpenShut
import Derived.Stop.Joined
import Derived.SevenTiedAt
import Derived.ChangeArms
import Derived.Deep.Slices
import Derived.Lib.SmallJoins
namespace Go.Proofs.YtcpignkjlnjjmaaGreatDoor
open Go.RowKit
set_option linter.unusedVariables false
set_option linter.unusedSimpArgs false

theorem xa {α : Type} {l : List α} {i : Nat} (h : i < l.toArray.size) : l.toArray[i] = l[i]'(by simpa using h) := by simp
theorem xb {α : Type} (a : α) (ys : List α) (h : 0 < (a :: ys).length) : (a :: ys)[0] = a := rfl
theorem xc {α : Type} (a : α) (ys : List α) (i : Nat) (h : i + 1 < (a :: ys).length) : (a :: ys)[i + 1] = ys[i]'(Nat.lt_of_succ_lt_succ h) := rfl
theorem xd {α : Type} {l : List α} {i : Nat} {a : α} : l.toArray.setIfInBounds i a = (l.set i a).toArray := by simp
theorem xe {α : Type} {x : α} {xs : List α} {a : α} : (x :: xs).set 0 a = a :: xs := rfl
theorem xf {α : Type} {x : α} {xs : List α} {n : Nat} {a : α} : (x :: xs).set (n + 1) a = x :: xs.set n a := rfl
/-- one operation is taken first -/
theorem tk (i : Nat) {P : Program} {md : Region.Mode} {ops : Array Oper} {Q : Exit → Act → World → Prop} {S : World → Prop} {oi : Oper} {v : Value} {fuel : Nat} {listed l' : Array Bool} {a a' : Act} {w : World}
    (h : wpAnyH P md ops Q S fuel l' a' w) (hi : ops[i]? = some oi := by exact rfl) (hs : Region.noSelect ops = true := by kernel_rfl) (hf : Region.free md ops listed i = true := by kernel_rfl) (hr : (Region.ready md ops listed).contains i = true := by kernel_rfl)
    (hw : Region.wanted oi (yielded ops a.tmps) = true := by rfl)
    (hy : ∀ w, S w → (execOp a.eval oi).run P w = .ok (.value v) w := by intro w hSw; (try dsimp only at hSw); simp only [List.getElem_toArray, List.getElem_cons_zero, List.getElem_cons_succ]; go_simp; (try with_reducible rfl))
    (hS : S w := by assumption)
    (hl : listed.setIfInBounds i true = l' := by (try simp only [List.setIfInBounds_toArray, List.set_cons_zero, List.set_cons_succ]); exact rfl)
    (ha : a.put oi.dst v = a' := by (try simp only [Act.put, List.getElem_toArray, List.getElem_cons_zero, List.getElem_cons_succ, List.setIfInBounds_toArray, List.set_cons_zero, List.set_cons_succ]); exact rfl)
    (hQ : ∀ c a w, Q (.panic c) (a.put oi.dst v) w → Q (.panic c) a w := by exact fun _ _ _ h => h) : wpAnyH P md ops Q S (fuel + 1) listed a w := by
  subst hl ha
  exact wpAnyH_take hi hs hf hr hQ (Or.inl ⟨hw, hy⟩) hS h
/-- one that is not wanted is passed by -/
theorem sk (i : Nat) {P : Program} {md : Region.Mode} {ops : Array Oper} {Q : Exit → Act → World → Prop} {S : World → Prop} {oi : Oper} {fuel : Nat} {listed l' : Array Bool} {a a' : Act} {w : World}
    (h : wpAnyH P md ops Q S fuel l' a' w) (hi : ops[i]? = some oi := by exact rfl) (hs : Region.noSelect ops = true := by kernel_rfl) (hf : Region.free md ops listed i = true := by kernel_rfl) (hr : (Region.ready md ops listed).contains i = true := by kernel_rfl)
    (hw : Region.wanted oi (yielded ops a.tmps) = false := by rfl) (hS : S w := by assumption)
    (hl : listed.setIfInBounds i true = l' := by (try simp only [List.setIfInBounds_toArray, List.set_cons_zero, List.set_cons_succ]); exact rfl)
    (ha : a.put oi.dst undef = a' := by (try simp only [Act.put, List.getElem_toArray, List.getElem_cons_zero, List.getElem_cons_succ, List.setIfInBounds_toArray, List.set_cons_zero, List.set_cons_succ]); exact rfl)
    (hQ : ∀ c a w, Q (.panic c) (a.put oi.dst undef) w → Q (.panic c) a w := by exact fun _ _ _ h => h) : wpAnyH P md ops Q S (fuel + 1) listed a w := by
  subst hl ha
  exact wpAnyH_take hi hs hf hr hQ (Or.inr ⟨hw, rfl⟩) hS h
end Go.Proofs.YtcpignkjlnjjmaaGreatDoor
namespace Go.Proofs.YtcpignkjlnjjmaaGreatDoor
open Go.RowKit
set_option linter.unusedVariables false
set_option linter.unusedSimpArgs false

theorem hid_mk {p : Prop} (h : p) : Hid p := h
theorem ret_int {k : IntKind} {a b : Int} (h : a = b) : Ending.returned (.int k a) = .returned (.int k b) := by rw [h]
theorem ret_bool {a b : Bool} (h : a = b) : Ending.returned (.bool a) = .returned (.bool b) := by rw [h]
theorem ret_ib {k : IntKind} {a b : Int} {p q : Bool} (h : a = b) (g : p = q) : Ending.returned (.tuple #[.int k a, .bool p]) = .returned (.tuple #[.int k b, .bool q]) := by rw [h, g]
theorem calls_same {f : FuncId} {args : Array Value} {v : Value} {w : World} {Q : Ending → World → Prop} (h : Calls Tryz.prog f args w (fun e w' => e = .returned v ∧ w' = w)) (hq : Q (.returned v) w) : Calls Tryz.prog f args w Q :=
  h.mono fun _ _ ⟨he, hw⟩ => by rw [he, hw]; exact hq
theorem i64_bounds {n : Int} (h : (Lit.int .i64 n).wf = true) : -9223372036854775808 ≤ n ∧ n ≤ 9223372036854775807 := by
  simpa [Lit.wf, IntKind.min, IntKind.max, IntKind.signed, IntKind.bits] using h

/-- all blocks that were there are as they were, those from lo on below hi aside -/
def Out (lo hi : Nat) (w w' : World) : Prop :=
  w'.os = w.os ∧ w'.tape = w.tape ∧ w'.output = w.output ∧ w.heap.size ≤ w'.heap.size ∧ ∀ k, k < w.heap.size → (k < lo ∨ hi ≤ k) → w'.heap[k]? = w.heap[k]?
theorem Out.refl (lo hi : Nat) (w : World) : Out lo hi w w := ⟨rfl, rfl, rfl, Nat.le_refl _, fun _ _ _ => rfl⟩
theorem Out.size {lo hi : Nat} {w w' : World} (h : Out lo hi w w') : w.heap.size ≤ w'.heap.size := h.2.2.2.1
theorem Out.block {lo hi : Nat} {w w' : World} (h : Out lo hi w w') {k : Nat} (h1 : k < w.heap.size) (h2 : k < lo ∨ hi ≤ k) : w'.heap[k]? = w.heap[k]? := h.2.2.2.2 k h1 h2
theorem Out.trans {lo hi : Nat} {a b c : World} (h : Out lo hi a b) (g : Out lo hi b c) : Out lo hi a c :=
  ⟨g.1.trans h.1, g.2.1.trans h.2.1, g.2.2.1.trans h.2.2.1, Nat.le_trans h.size g.size, fun k h1 h2 => (g.block (Nat.lt_of_lt_of_le h1 h.size) h2).trans (h.block h1 h2)⟩
theorem Out.wide {lo hi lo' hi' : Nat} {w w' : World} (h : Out lo hi w w') (h1 : lo' ≤ lo) (h2 : hi ≤ hi') : Out lo' hi' w w' :=
  ⟨h.1, h.2.1, h.2.2.1, h.size, fun k a b => h.block a (by omega)⟩
/-- what lies beyond the first world's end counts for nothing -/
theorem Out.cut {lo hi : Nat} {w w' : World} (h : Out lo hi w w') (hl : w.heap.size ≤ lo) (a b : Nat) : Out a b w w' :=
  ⟨h.1, h.2.1, h.2.2.1, h.size, fun k h1 _ => h.block h1 (by omega)⟩
theorem Out.past {x y lo hi : Nat} {a b c : World} (h : Out x y a b) (g : Out lo hi b c) (hl : a.heap.size ≤ lo) : Out x y a c :=
  ⟨g.1.trans h.1, g.2.1.trans h.2.1, g.2.2.1.trans h.2.2.1, Nat.le_trans h.size g.size, fun k h1 h2 => (g.block (Nat.lt_of_lt_of_le h1 h.size) (.inl (by omega))).trans (h.block h1 h2)⟩
theorem Out.any {w w' : World} (h : Out 0 0 w w') (lo hi : Nat) : Out lo hi w w' :=
  ⟨h.1, h.2.1, h.2.2.1, h.size, fun k h1 _ => h.block h1 (by omega)⟩
theorem Out.of_below {w w' : World} (h : Below w.heap.size w w') (lo hi : Nat) : Out lo hi w w' := ⟨h.os, h.tape, h.output, h.size, fun k h1 _ => h.block k h1⟩
theorem Out.below {lo hi B : Nat} {w w' : World} (h : Out lo hi w w') (h1 : B ≤ lo) (h2 : B ≤ w.heap.size) : Below B w w' := ⟨h.1, h.2.1, h.2.2.1, h.size, fun k hk => h.block (by omega) (by omega)⟩
theorem Out.all {w w' : World} (h : Out 0 0 w w') : Below w.heap.size w w' := ⟨h.1, h.2.1, h.2.2.1, h.size, fun k hk => h.block hk (by omega)⟩
theorem Out.drew {lo hi : Nat} {a w : World} (h : Out lo hi a w) : Out lo hi a w.drew := ⟨h.1, h.2.1, h.2.2.1, h.size, h.2.2.2.2⟩
theorem Out.alloc {lo hi : Nat} {a w : World} (h : Out lo hi a w) (o : Obj) : Out lo hi a (w.alloc o) :=
  h.trans ⟨rfl, rfl, rfl, by simp, fun k h1 _ => Below.heap_alloc _ _ _ h1⟩
theorem Out.setCell {lo hi : Nat} {a w : World} (h : Out lo hi a w) {p : Addr} (hp : (lo ≤ p.block ∧ p.block < hi) ∨ a.heap.size ≤ p.block) (u : Value) : Out lo hi a (w.setCell p u) := by
  refine ⟨h.1, h.2.1, h.2.2.1, by have := h.size; simpa [World.setCell] using this, fun k h1 h2 => ?_⟩
  rw [Below.heap_setCell _ _ _ _ (by omega)]
  exact h.block h1 h2
theorem Out.cell {lo hi : Nat} {w w' : World} (h : Out lo hi w w') {b o : Nat} {v : Value} (hc : w.cell? ⟨b, o, none⟩ = some v) (h2 : b < lo ∨ hi ≤ b) : w'.cell? ⟨b, o, none⟩ = some v := by
  have hb : b < w.heap.size := by
    by_cases hb : b < w.heap.size
    · exact hb
    · have : w.heap[b]? = none := by simp; omega
      simp [World.cell?, this] at hc
  rw [World.cell?_of_block (w := w) (a := ⟨b, o, none⟩) (h.block hb h2)]
  exact hc
theorem heap_lt {w : World} {b : Nat} {o : Obj} (h : w.heap[b]? = some o) : b < w.heap.size := (Array.getElem?_eq_some_iff.1 h).1
theorem Out.heap {lo hi : Nat} {w w' : World} (h : Out lo hi w w') {b : Nat} {o : Obj} (hc : w.heap[b]? = some o) (h2 : b < lo ∨ hi ≤ b) : w'.heap[b]? = some o :=
  (h.block (heap_lt hc) h2).trans hc

/-- block b begins with k cells of type T, cell i holding 'f i', none frozen -/
def Row (w : World) (b : Nat) (T : TypeId) (k : Nat) (f : Nat → Value) : Prop :=
  ∃ c : Array Value, w.heap[b]? = some (.cells c T (0, 0)) ∧ k ≤ c.size ∧ ∀ i, i < k → c[i]? = some (f i)
theorem Row.cell {w : World} {b k : Nat} {T : TypeId} {f : Nat → Value} (h : Row w b T k f) {i : Nat} (hi : i < k) : w.cell? ⟨b, i, none⟩ = some (f i) := by
  obtain ⟨c, hb, _, hc⟩ := h
  simp [World.cell?, hb, hc i hi]
theorem Row.frozen {w : World} {b k : Nat} {T : TypeId} {f : Nat → Value} (h : Row w b T k f) (i : Nat) : w.frozen? ⟨b, i, none⟩ = false := by
  obtain ⟨c, hb, _, _⟩ := h
  simp [World.frozen?, hb]
theorem Row.lt {w : World} {b k : Nat} {T : TypeId} {f : Nat → Value} (h : Row w b T k f) : b < w.heap.size := by
  obtain ⟨c, hb, _, _⟩ := h
  exact heap_lt hb
theorem Row.of_block {w w' : World} {b k : Nat} {T : TypeId} {f : Nat → Value} (h : Row w b T k f) (e : w'.heap[b]? = w.heap[b]?) : Row w' b T k f := by
  obtain ⟨c, hb, hn, hc⟩ := h
  exact ⟨c, e.trans hb, hn, hc⟩
theorem Row.kept {w w' : World} {b k lo hi : Nat} {T : TypeId} {f : Nat → Value} (h : Row w b T k f) (g : Out lo hi w w') (h2 : b < lo ∨ hi ≤ b) : Row w' b T k f := h.of_block (g.block h.lt h2)
theorem Row.congr {w : World} {b k : Nat} {T : TypeId} {f g : Nat → Value} (h : Row w b T k f) (e : ∀ i, i < k → f i = g i) : Row w b T k g := by
  obtain ⟨c, hb, hn, hc⟩ := h
  exact ⟨c, hb, hn, fun i hi => by rw [hc i hi, e i hi]⟩
theorem Row.set {w : World} {b k : Nat} {T : TypeId} {f : Nat → Value} (h : Row w b T k f) (i : Nat) (v : Value) : Row (w.setCell ⟨b, i, none⟩ v) b T k (fun j => if j = i then v else f j) := by
  obtain ⟨c, hb, hn, hc⟩ := h
  refine ⟨c.setIfInBounds i v, ?_, by simpa using hn, fun j hj => ?_⟩
  · simp [World.setCell, Array.getElem?_modify, hb]
  · rw [Array.getElem?_setIfInBounds]
    by_cases e : j = i
    · subst e
      have : j < c.size := by omega
      simp [this]
    · rw [if_neg (fun h => e h.symm)]
      show c[j]? = some (if j = i then v else f j)
      rw [if_neg e]
      exact hc j hj

theorem below_seq {a b c : World} (h : Below a.heap.size a b) (g : Below b.heap.size b c) : Below a.heap.size a c := h.trans (g.mono h.size)
theorem calls_rel {P : Program} {f : FuncId} {args : Array Value} {w w0 : World} {post : Ending → Prop} (h : Calls P f args w (fun e w' => post e ∧ Below w.heap.size w w')) (h0 : Below w0.heap.size w0 w) :
    Calls P f args w (fun e w' => post e ∧ Below w0.heap.size w0 w') := h.mono fun _ _ ⟨he, hb⟩ => ⟨he, below_seq h0 hb⟩
/-- the words of an object of a kind that has no parts, and the most parts -/
def wd (k : Int) : Int := [0, 3, 2, 1, 2, 2, 1, 2, 3, 3, 3, 5, 1, 4].getD k.toNat 0
def mo (k : Int) : Int := [0, 0, 0, 1023, 4096, 0, 64, 0, 0, 0, 0, 128, 512, 0].getD k.toNat 0
/-! the variables of the packages: the table of shapes, the two states of pages, the library's table of bits -/
def Tab (w : World) : Prop := (∀ j : Nat, j < 3 → w.cell? ⟨3, j, none⟩ = some (.int .i64 0) ∧ w.cell? ⟨2, j, none⟩ = some (.int .i64 (if j = 0 then 3 else 0))) ∧
  (∀ j : Nat, j < 14 → w.cell? ⟨0, j * 2, none⟩ = some (.int .i64 (wd j)) ∧ w.cell? ⟨0, j * 2 + 1, none⟩ = some (.int .i64 (mo j))) ∧
  (∀ j, j < 64 → w.cell? ⟨1, j, none⟩ = some (.int .u8 (Lib.deBruijn64tab.getD j 0)))
theorem cell_lt {w : World} {b o : Nat} {v : Value} (hc : w.cell? ⟨b, o, none⟩ = some v) : b < w.heap.size := by
  by_cases hb : b < w.heap.size
  · exact hb
  · have : w.heap[b]? = none := by simp; omega
    simp [World.cell?, this] at hc
theorem Tab.lt {w : World} (h : Tab w) : 4 ≤ w.heap.size := by
  have h1 := cell_lt (h.1 0 (by omega)).1
  have h2 := cell_lt (h.1 0 (by omega)).2
  have h3 := cell_lt (h.2.1 0 (by omega)).1
  have h4 := cell_lt (h.2.2 0 (by omega))
  omega
theorem Tab.kept {w w' : World} {lo hi : Nat} (h : Tab w) (g : Out lo hi w w') (h2 : 4 ≤ lo ∨ hi = 0) : Tab w' :=
  ⟨fun j hj => ⟨g.cell (h.1 j hj).1 (by omega), g.cell (h.1 j hj).2 (by omega)⟩, fun j hj => ⟨g.cell (h.2.1 j hj).1 (by omega), g.cell (h.2.1 j hj).2 (by omega)⟩, fun j hj => g.cell (h.2.2 j hj) (by omega)⟩
theorem Tab.quiet {w w' : World} (h : Tab w) (g : Out 0 0 w w') : Tab w' := h.kept g (.inr rfl)
theorem Tab.f {w : World} (h : Tab w) : w.cell? ⟨3, 0, none⟩ = some (.int .i64 0) ∧ w.cell? ⟨3, 1, none⟩ = some (.int .i64 0) ∧ w.cell? ⟨3, 2, none⟩ = some (.int .i64 0) := ⟨(h.1 0 (by omega)).1, (h.1 1 (by omega)).1, (h.1 2 (by omega)).1⟩
theorem Tab.r {w : World} (h : Tab w) : w.cell? ⟨2, 0, none⟩ = some (.int .i64 3) ∧ w.cell? ⟨2, 1, none⟩ = some (.int .i64 0) ∧ w.cell? ⟨2, 2, none⟩ = some (.int .i64 0) := ⟨(h.1 0 (by omega)).2, (h.1 1 (by omega)).2, (h.1 2 (by omega)).2⟩
end Go.Proofs.YtcpignkjlnjjmaaGreatDoor
namespace Go.Proofs.YtcpignkjlnjjmaaGreatDoor
open Go.ChangeShapes Go.WideShapes Go.ChangeAt Go.RowKit
set_option linter.unusedVariables false
set_option linter.unusedSimpArgs false

theorem own : ownKnob Tryz.prog.godebug = none := by kernel_rfl
theorem laid_out : laidOutB Tryz.prog = true := by kernel_rfl
theorem gD : Tryz.prog.globalNamed "math/bits.deBruijn64tab" = some 1 := by kernel_rfl
theorem tD : (Tryz.prog.globals[1]?).map (·.type) = some 148 := by kernel_rfl
theorem gS : Tryz.prog.globalNamed "hearth/layout.shapes" = some 0 := by kernel_rfl
theorem tS : (Tryz.prog.globals[0]?).map (·.type) = some 131 := by kernel_rfl
theorem gF : Tryz.prog.globalNamed "hearth/pages.free" = some 3 := by kernel_rfl
theorem tF : (Tryz.prog.globals[3]?).map (·.type) = some 119 := by kernel_rfl
theorem gR : Tryz.prog.globalNamed "hearth/pages.rest" = some 2 := by kernel_rfl
theorem tR : (Tryz.prog.globals[2]?).map (·.type) = some 119 := by kernel_rfl
theorem cells_shape : Tryz.prog.cellsOf 130 = 2 := by kernel_rfl
theorem cells_int : Tryz.prog.cellsOf 3 = 1 := by kernel_rfl
theorem cells_u8 : Tryz.prog.cellsOf 5 = 1 := by kernel_rfl
def laidL : List (String × DataW Unit) := [("math/bits.deBruijn64tab", Rows.laid_math_bits_deBruijn64tab), ("hearth/layout.shapes", Rows.laid_hearth_layout_shapes), ("hearth/pages.free", Rows.laid_hearth_pages_free), ("hearth/pages.rest", Rows.laid_hearth_pages_rest)]
theorem laid_eqS : (Rows.laid_hearth_layout_shapes : DataW Unit) = .agg ((List.range 14).map fun (j : Nat) => .agg [.lit (.int .i64 (wd j)), .lit (.int .i64 (mo j))]) := by kernel_rfl
theorem laid_eqD : (Rows.laid_math_bits_deBruijn64tab : DataW Unit) = .agg (Lib.deBruijn64tab.map fun (n : Nat) => .lit (.int .u8 (n : Int))) := by kernel_rfl
theorem door_met (os : Os) (args : Array Value) : laidMetH Tryz.prog laidL ((World.doorLaid Tryz.prog 400 os).forCall (fun _ _ => 0) ⟨#[], args, []⟩).memory :=
  laidMetH_of_parts3 (fuel := 8) (laidMet_of_run' 8 (by kernel_rfl) (by kernel_rfl)) (by kernel_rfl) (by kernel_rfl)
/-- a variable of three ints -/
theorem three {W : World} {f : Nat} {q : List MemPlace} {z0 z1 z2 : Int} {cs : Array Value} (hd : DataW.trod (fun x => ()) Tryz.prog W 0 (fun x => true) false f 119 cs.toList = some (.agg [.lit (.int .i64 z0), .lit (.int .i64 z1), .lit (.int .i64 z2)], q)) :
    cs[0]? = some (.int .i64 z0) ∧ cs[1]? = some (.int .i64 z1) ∧ cs[2]? = some (.int .i64 z2) := by
  obtain ⟨ys, m2, rfl, hy, hylen, hyn, hyel⟩ := DataW.trod_struct Tryz.underlying119 hd
  have hy3 : ys.length = 3 := hyn
  have k0 : DataW.trod (fun x => ()) Tryz.prog W 0 (fun x => true) false m2 3 (List.take (Tryz.prog.cellsOf 3) (List.drop 0 cs.toList)) = ys[0]? := hyel 0 _ rfl
  have k1 : DataW.trod (fun x => ()) Tryz.prog W 0 (fun x => true) false m2 3 (List.take (Tryz.prog.cellsOf 3) (List.drop 1 cs.toList)) = ys[1]? := hyel 1 _ rfl
  have k2 : DataW.trod (fun x => ()) Tryz.prog W 0 (fun x => true) false m2 3 (List.take (Tryz.prog.cellsOf 3) (List.drop 2 cs.toList)) = ys[2]? := hyel 2 _ rfl
  match ys, hy3 with
  | [y0, y1, y2], _ =>
    rw [cells_int] at k0 k1 k2
    simp only [List.getElem?_cons_zero, List.getElem?_cons_succ] at k0 k1 k2
    obtain ⟨x0, e0, f0, _⟩ := DataW.trod_int Tryz.underlying3 k0
    obtain ⟨x1, e1, f1, _⟩ := DataW.trod_int Tryz.underlying3 k1
    obtain ⟨x2, e2, f2, _⟩ := DataW.trod_int Tryz.underlying3 k2
    simp [f0, f1, f2] at hy
    obtain ⟨⟨rfl, rfl, rfl⟩, _⟩ := hy
    have q0 : cs.toList[0]? = some (.int .i64 z0) := by
      have := congrArg (fun l => l[0]?) e0
      simpa [List.getElem?_take, List.getElem?_drop] using this
    have q1 : cs.toList[1]? = some (.int .i64 z1) := by
      have := congrArg (fun l => l[0]?) e1
      simpa [List.getElem?_take, List.getElem?_drop] using this
    have q2 : cs.toList[2]? = some (.int .i64 z2) := by
      have := congrArg (fun l => l[0]?) e2
      simpa [List.getElem?_take, List.getElem?_drop] using this
    rw [Array.getElem?_toList] at q0 q1 q2
    exact ⟨q0, q1, q2⟩
theorem tab_S {W : World} {cs : Array Value} {f : Nat} {q : List MemPlace} (hv : W.var? Tryz.prog "hearth/layout.shapes" = some cs) (hd : DataW.trod (fun x => ()) Tryz.prog W 0 (fun x => true) false f 131 cs.toList = some (Rows.laid_hearth_layout_shapes, q)) :
    ∀ j : Nat, j < 14 → W.cell? ⟨0, j * 2, none⟩ = some (.int .i64 (wd j)) ∧ W.cell? ⟨0, j * 2 + 1, none⟩ = some (.int .i64 (mo j)) := by
  obtain ⟨xs, m, rfl, hx, hlen, hn, hel⟩ := DataW.trod_array Tryz.underlying131 hd
  rw [laid_eqS] at hx
  simp only [Prod.mk.injEq, DataW.agg.injEq] at hx
  intro j hj
  have hj' := hel j hj
  have hxj : xs[j]? = some (xs[j]'(by omega)) := List.getElem?_eq_getElem (by omega)
  rw [hxj, cells_shape] at hj'
  obtain ⟨ys, m2, rfl, hy, hylen, hyn, hyel⟩ := DataW.trod_struct Tryz.underlying130 hj'
  have hy2 : ys.length = 2 := hyn
  have k0 : DataW.trod (fun x => ()) Tryz.prog W 0 (fun x => true) false m2 3 (List.take (Tryz.prog.cellsOf 3) (List.drop 0 (List.take 2 (List.drop (j * 2) cs.toList)))) = ys[0]? := hyel 0 _ rfl
  have k1 : DataW.trod (fun x => ()) Tryz.prog W 0 (fun x => true) false m2 3 (List.take (Tryz.prog.cellsOf 3) (List.drop 1 (List.take 2 (List.drop (j * 2) cs.toList)))) = ys[1]? := hyel 1 _ rfl
  match ys, hy2 with
  | [y0, y1], _ =>
    rw [cells_int] at k0 k1
    simp only [List.getElem?_cons_zero, List.getElem?_cons_succ] at k0 k1
    obtain ⟨z0, e0, f0, _⟩ := DataW.trod_int Tryz.underlying3 k0
    obtain ⟨z1, e1, f1, _⟩ := DataW.trod_int Tryz.underlying3 k1
    have hk : (xs.map (·.1))[j]? = some (.agg [.lit (.int .i64 z0), .lit (.int .i64 z1)]) := by
      rw [List.getElem?_map, hxj, Option.map_some, hy]
      simp [f0, f1]
    rw [← hx.1, List.getElem?_map, List.getElem?_range hj] at hk
    simp at hk
    have q0 : cs.toList[j * 2]? = some (.int .i64 z0) := by
      have := congrArg (fun l => l[0]?) e0
      simpa [List.getElem?_take, List.getElem?_drop] using this
    have q1 : cs.toList[j * 2 + 1]? = some (.int .i64 z1) := by
      have := congrArg (fun l => l[0]?) e1
      simpa [List.getElem?_take, List.getElem?_drop] using this
    refine ⟨?_, ?_⟩
    · rw [World.var?_cell gS hv (j * 2), ← Array.getElem?_toList, q0, ← hk.1]
    · rw [World.var?_cell gS hv (j * 2 + 1), ← Array.getElem?_toList, q1, ← hk.2]
theorem tab_D {W : World} {cs : Array Value} {f : Nat} {q : List MemPlace} (hv : W.var? Tryz.prog "math/bits.deBruijn64tab" = some cs) (hd : DataW.trod (fun x => ()) Tryz.prog W 0 (fun x => true) false f 148 cs.toList = some (Rows.laid_math_bits_deBruijn64tab, q)) :
    ∀ j, j < 64 → W.cell? ⟨1, j, none⟩ = some (.int .u8 (Lib.deBruijn64tab.getD j 0)) := by
  obtain ⟨xs, m, rfl, hx, hlen, hn, hel⟩ := DataW.trod_array Tryz.underlying148 hd
  rw [laid_eqD] at hx
  simp only [Prod.mk.injEq, DataW.agg.injEq] at hx
  intro j hj
  have hj' := hel j hj
  have hxj : xs[j]? = some (xs[j]'(by omega)) := List.getElem?_eq_getElem (by omega)
  rw [hxj, cells_u8] at hj'
  obtain ⟨k, e1, e2, _⟩ := DataW.trod_int Tryz.underlying5 hj'
  have hk : (xs.map (·.1))[j]? = some (.lit (.int .u8 k)) := by rw [List.getElem?_map, hxj, Option.map_some, e2]
  rw [← hx.1, List.getElem?_map] at hk
  have hlt : j < Lib.deBruijn64tab.length := by rw [show Lib.deBruijn64tab.length = 64 from by decide +kernel]; exact hj
  rw [List.getElem?_eq_getElem hlt, Option.map_some] at hk
  simp at hk
  rw [World.var?_cell gD hv j]
  have e3 : cs.toList[j]? = some (.int .u8 k) := by
    have := congrArg (fun l => l[0]?) e1
    simp at this
    simpa using this
  rw [← Array.getElem?_toList, e3, ← hk]
  simp [List.getD_eq_getElem?_getD, List.getElem?_eq_getElem hlt]
theorem tab_of_laid {W : World} (h : laidMetH Tryz.prog laidL W) : Tab W := by
  rw [MakeChecks.laidMetH_plain _ _ _ (by kernel_rfl)] at h
  obtain ⟨ps, ⟨g1, t1, cs1, f1, p1, q1, hg1, ht1, hv1, hd1, hr1, _⟩, _, _⟩ := h
  obtain ⟨g2, t2, cs2, f2, p2, q2, hg2, ht2, hv2, hd2, hr2, _⟩ := hr1
  obtain ⟨g3, t3, cs3, f3, p3, q3, hg3, ht3, hv3, hd3, hr3, _⟩ := hr2
  obtain ⟨g4, t4, cs4, f4, p4, q4, hg4, ht4, hv4, hd4, _, _⟩ := hr3
  obtain rfl := Option.some.inj (gD.symm.trans hg1)
  obtain rfl := Option.some.inj (tD.symm.trans ht1)
  obtain rfl := Option.some.inj (gS.symm.trans hg2)
  obtain rfl := Option.some.inj (tS.symm.trans ht2)
  obtain rfl := Option.some.inj (gF.symm.trans hg3)
  obtain rfl := Option.some.inj (tF.symm.trans ht3)
  obtain rfl := Option.some.inj (gR.symm.trans hg4)
  obtain rfl := Option.some.inj (tR.symm.trans ht4)
  obtain ⟨a0, a1, a2⟩ := three hd3
  obtain ⟨b0, b1, b2⟩ := three hd4
  refine ⟨fun j hj => ?_, tab_S hv2 hd2, tab_D hv1 hd1⟩
  rw [World.var?_cell hg3 hv3 j, World.var?_cell hg4 hv4 j]
  have hj' : j = 0 ∨ j = 1 ∨ j = 2 := by omega
  rcases hj' with rfl | rfl | rfl
  · exact ⟨a0, b0⟩
  · exact ⟨a1, b1⟩
  · exact ⟨a2, b2⟩
end Go.Proofs.YtcpignkjlnjjmaaGreatDoor
