/- worlds, for the show's seats -/
import Derived.Test.YtocncffplcfpbaaGreatDoorRows
import Derived.Test.YtocncffplcfpbaaGreatDoorChecked
import Derived.WalkKit
import Derived.Carry
import Derived.OwnWalk
import Derived.Test.YtocncffplcfpbaaGreatDoorTk
import Derived.Deep.RegionHeld3
import Derived.Deep.OwnRows
import Derived.Lib.TrailingZeros
namespace Go.Proofs.YtocncffplcfpbaaGreatDoor
open Go.RowKit
set_option linter.unusedVariables false
set_option linter.unusedSimpArgs false

theorem hid_mk {p : Prop} (h : p) : Hid p := h
theorem ret_int {k : IntKind} {a b : Int} (h : a = b) : Ending.returned (.int k a) = .returned (.int k b) := by rw [h]
theorem ret_bool {a b : Bool} (h : a = b) : Ending.returned (.bool a) = .returned (.bool b) := by rw [h]
theorem ret_ib {k : IntKind} {a b : Int} {p q : Bool} (h : a = b) (g : p = q) : Ending.returned (.tuple #[.int k a, .bool p]) = .returned (.tuple #[.int k b, .bool q]) := by rw [h, g]
theorem calls_same {f : FuncId} {args : Array Value} {v : Value} {w : World} {Q : Ending → World → Prop} (h : Calls Tryz.prog f args w (fun e w' => e = .returned v ∧ w' = w)) (hq : Q (.returned v) w) : Calls Tryz.prog f args w Q :=
  h.mono fun _ _ ⟨he, hw⟩ => by rw [he, hw]; exact hq
theorem i64_bounds {n : Int} (h : (Lit.int .i64 n).wf = true) : -9223372036854775808 ≤ n ∧ n ≤ 9223372036854775807 := by
  simpa [Lit.wf, IntKind.min, IntKind.max, IntKind.signed, IntKind.bits] using h

/-- all blocks that were there are as they were, those from lo on below hi aside -/
def Out (lo hi : Nat) (w w' : World) : Prop :=
  w'.os = w.os ∧ w'.tape = w.tape ∧ w'.output = w.output ∧ w.heap.size ≤ w'.heap.size ∧ ∀ k, k < w.heap.size → (k < lo ∨ hi ≤ k) → w'.heap[k]? = w.heap[k]?
theorem Out.refl (lo hi : Nat) (w : World) : Out lo hi w w := ⟨rfl, rfl, rfl, Nat.le_refl _, fun _ _ _ => rfl⟩
theorem Out.size {lo hi : Nat} {w w' : World} (h : Out lo hi w w') : w.heap.size ≤ w'.heap.size := h.2.2.2.1
theorem Out.block {lo hi : Nat} {w w' : World} (h : Out lo hi w w') {k : Nat} (h1 : k < w.heap.size) (h2 : k < lo ∨ hi ≤ k) : w'.heap[k]? = w.heap[k]? := h.2.2.2.2 k h1 h2
theorem Out.trans {lo hi : Nat} {a b c : World} (h : Out lo hi a b) (g : Out lo hi b c) : Out lo hi a c :=
  ⟨g.1.trans h.1, g.2.1.trans h.2.1, g.2.2.1.trans h.2.2.1, Nat.le_trans h.size g.size, fun k h1 h2 => (g.block (Nat.lt_of_lt_of_le h1 h.size) h2).trans (h.block h1 h2)⟩
theorem Out.wide {lo hi lo' hi' : Nat} {w w' : World} (h : Out lo hi w w') (h1 : lo' ≤ lo) (h2 : hi ≤ hi') : Out lo' hi' w w' :=
  ⟨h.1, h.2.1, h.2.2.1, h.size, fun k a b => h.block a (by omega)⟩
/-- what lies beyond the first world's end counts for nothing -/
theorem Out.cut {lo hi : Nat} {w w' : World} (h : Out lo hi w w') (hl : w.heap.size ≤ lo) (a b : Nat) : Out a b w w' :=
  ⟨h.1, h.2.1, h.2.2.1, h.size, fun k h1 _ => h.block h1 (by omega)⟩
theorem Out.past {x y lo hi : Nat} {a b c : World} (h : Out x y a b) (g : Out lo hi b c) (hl : a.heap.size ≤ lo) : Out x y a c :=
  ⟨g.1.trans h.1, g.2.1.trans h.2.1, g.2.2.1.trans h.2.2.1, Nat.le_trans h.size g.size, fun k h1 h2 => (g.block (Nat.lt_of_lt_of_le h1 h.size) (.inl (by omega))).trans (h.block h1 h2)⟩
theorem Out.any {w w' : World} (h : Out 0 0 w w') (lo hi : Nat) : Out lo hi w w' :=
  ⟨h.1, h.2.1, h.2.2.1, h.size, fun k h1 _ => h.block h1 (by omega)⟩
theorem Out.of_below {w w' : World} (h : Below w.heap.size w w') (lo hi : Nat) : Out lo hi w w' := ⟨h.os, h.tape, h.output, h.size, fun k h1 _ => h.block k h1⟩
theorem Out.below {lo hi B : Nat} {w w' : World} (h : Out lo hi w w') (h1 : B ≤ lo) (h2 : B ≤ w.heap.size) : Below B w w' := ⟨h.1, h.2.1, h.2.2.1, h.size, fun k hk => h.block (by omega) (by omega)⟩
theorem Out.all {w w' : World} (h : Out 0 0 w w') : Below w.heap.size w w' := ⟨h.1, h.2.1, h.2.2.1, h.size, fun k hk => h.block hk (by omega)⟩
theorem Out.drew {lo hi : Nat} {a w : World} (h : Out lo hi a w) : Out lo hi a w.drew := ⟨h.1, h.2.1, h.2.2.1, h.size, h.2.2.2.2⟩
theorem Out.alloc {lo hi : Nat} {a w : World} (h : Out lo hi a w) (o : Obj) : Out lo hi a (w.alloc o) :=
  h.trans ⟨rfl, rfl, rfl, by simp, fun k h1 _ => Below.heap_alloc _ _ _ h1⟩
theorem Out.setCell {lo hi : Nat} {a w : World} (h : Out lo hi a w) {p : Addr} (hp : (lo ≤ p.block ∧ p.block < hi) ∨ a.heap.size ≤ p.block) (u : Value) : Out lo hi a (w.setCell p u) := by
  refine ⟨h.1, h.2.1, h.2.2.1, by have := h.size; simpa [World.setCell] using this, fun k h1 h2 => ?_⟩
  rw [Below.heap_setCell _ _ _ _ (by omega)]
  exact h.block h1 h2
theorem Out.cell {lo hi : Nat} {w w' : World} (h : Out lo hi w w') {b o : Nat} {v : Value} (hc : w.cell? ⟨b, o, none⟩ = some v) (h2 : b < lo ∨ hi ≤ b) : w'.cell? ⟨b, o, none⟩ = some v := by
  have hb : b < w.heap.size := by
    by_cases hb : b < w.heap.size
    · exact hb
    · have : w.heap[b]? = none := by simp; omega
      simp [World.cell?, this] at hc
  rw [World.cell?_of_block (w := w) (a := ⟨b, o, none⟩) (h.block hb h2)]
  exact hc
theorem heap_lt {w : World} {b : Nat} {o : Obj} (h : w.heap[b]? = some o) : b < w.heap.size := (Array.getElem?_eq_some_iff.1 h).1
theorem Out.heap {lo hi : Nat} {w w' : World} (h : Out lo hi w w') {b : Nat} {o : Obj} (hc : w.heap[b]? = some o) (h2 : b < lo ∨ hi ≤ b) : w'.heap[b]? = some o :=
  (h.block (heap_lt hc) h2).trans hc

/-- block b begins with k cells of type T, cell i holding 'f i', none frozen -/
def Row (w : World) (b : Nat) (T : TypeId) (k : Nat) (f : Nat → Value) : Prop :=
  ∃ c : Array Value, w.heap[b]? = some (.cells c T (0, 0)) ∧ k ≤ c.size ∧ ∀ i, i < k → c[i]? = some (f i)
theorem Row.cell {w : World} {b k : Nat} {T : TypeId} {f : Nat → Value} (h : Row w b T k f) {i : Nat} (hi : i < k) : w.cell? ⟨b, i, none⟩ = some (f i) := by
  obtain ⟨c, hb, _, hc⟩ := h
  simp [World.cell?, hb, hc i hi]
theorem Row.frozen {w : World} {b k : Nat} {T : TypeId} {f : Nat → Value} (h : Row w b T k f) (i : Nat) : w.frozen? ⟨b, i, none⟩ = false := by
  obtain ⟨c, hb, _, _⟩ := h
  simp [World.frozen?, hb]
theorem Row.lt {w : World} {b k : Nat} {T : TypeId} {f : Nat → Value} (h : Row w b T k f) : b < w.heap.size := by
  obtain ⟨c, hb, _, _⟩ := h
  exact heap_lt hb
theorem Row.of_block {w w' : World} {b k : Nat} {T : TypeId} {f : Nat → Value} (h : Row w b T k f) (e : w'.heap[b]? = w.heap[b]?) : Row w' b T k f := by
  obtain ⟨c, hb, hn, hc⟩ := h
  exact ⟨c, e.trans hb, hn, hc⟩
theorem Row.kept {w w' : World} {b k lo hi : Nat} {T : TypeId} {f : Nat → Value} (h : Row w b T k f) (g : Out lo hi w w') (h2 : b < lo ∨ hi ≤ b) : Row w' b T k f := h.of_block (g.block h.lt h2)
theorem Row.congr {w : World} {b k : Nat} {T : TypeId} {f g : Nat → Value} (h : Row w b T k f) (e : ∀ i, i < k → f i = g i) : Row w b T k g := by
  obtain ⟨c, hb, hn, hc⟩ := h
  exact ⟨c, hb, hn, fun i hi => by rw [hc i hi, e i hi]⟩
theorem Row.set {w : World} {b k : Nat} {T : TypeId} {f : Nat → Value} (h : Row w b T k f) (i : Nat) (v : Value) : Row (w.setCell ⟨b, i, none⟩ v) b T k (fun j => if j = i then v else f j) := by
  obtain ⟨c, hb, hn, hc⟩ := h
  refine ⟨c.setIfInBounds i v, ?_, by simpa using hn, fun j hj => ?_⟩
  · simp [World.setCell, Array.getElem?_modify, hb]
  · rw [Array.getElem?_setIfInBounds]
    by_cases e : j = i
    · subst e
      have : j < c.size := by omega
      simp [this]
    · rw [if_neg (fun h => e h.symm)]
      show c[j]? = some (if j = i then v else f j)
      rw [if_neg e]
      exact hc j hj

theorem below_seq {a b c : World} (h : Below a.heap.size a b) (g : Below b.heap.size b c) : Below a.heap.size a c := h.trans (g.mono h.size)
theorem calls_rel {P : Program} {f : FuncId} {args : Array Value} {w w0 : World} {post : Ending → Prop} (h : Calls P f args w (fun e w' => post e ∧ Below w.heap.size w w')) (h0 : Below w0.heap.size w0 w) :
    Calls P f args w (fun e w' => post e ∧ Below w0.heap.size w0 w') := h.mono fun _ _ ⟨he, hb⟩ => ⟨he, below_seq h0 hb⟩
/-- the words of an object of a kind that has no parts, and the most parts -/
theorem cell_lt {w : World} {b o : Nat} {v : Value} (hc : w.cell? ⟨b, o, none⟩ = some v) : b < w.heap.size := by
  by_cases hb : b < w.heap.size
  · exact hb
  · have : w.heap[b]? = none := by simp; omega
    simp [World.cell?, this] at hc
end Go.Proofs.YtocncffplcfpbaaGreatDoor
