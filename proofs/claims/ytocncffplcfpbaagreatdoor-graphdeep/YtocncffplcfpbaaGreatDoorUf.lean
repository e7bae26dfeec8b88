/- package code: blocks, and what a writer holds -/
import Derived.Test.YtocncffplcfpbaaGreatDoorUe
import Derived.Test.YtocncffplcfpbaaGreatDoorIa
import Derived.Laws.ResultCell
import Derived.Laws.Rows
import Derived.Deep.AppendLies
import Derived.Deep.Upon
import Derived.Laws.BytesArg
import Derived.Defers
import Derived.Recover
import Derived.WalkSmall
namespace Go.Proofs.YtocncffplcfpbaaGreatDoor
open Go.RowKit
set_option linter.unusedVariables false
set_option linter.unusedSimpArgs false

/-- block p holds these cells -/
def Bl (W : World) (p : Nat) (cs : Array Value) (T : TypeId) : Prop := W.heap[p]? = some (.cells cs T (0, 0))
section
variable {W W' : World} {p lo hi : Nat} {cs : Array Value} {T : TypeId}
theorem Bl.cell (h : Bl W p cs T) {i : Nat} {v : Value} (hi : cs[i]? = some v) : W.cell? ⟨p, i, none⟩ = some v := by
  unfold Bl at h; simp [World.cell?, h, hi]
theorem Bl.frozen (h : Bl W p cs T) (i : Nat) : W.frozen? ⟨p, i, none⟩ = false := by
  unfold Bl at h; simp [World.frozen?, h]
theorem Bl.lt (h : Bl W p cs T) : p < W.heap.size := heap_lt h
theorem Bl.kept (h : Bl W p cs T) (g : Out lo hi W W') (h2 : p < lo ∨ hi ≤ p) : Bl W' p cs T := g.heap h h2
theorem Bl.alloc (h : Bl W p cs T) (o : Obj) : Bl (W.alloc o) p cs T := by
  have hl := h.lt
  unfold Bl at *; rw [heap_alloc_old _ _ hl]; exact h
theorem Bl.new (W : World) (cs : Array Value) (T : TypeId) : Bl (W.alloc (.cells cs T)) W.heap.size cs T := heap_alloc_new _ _
theorem Bl.set (h : Bl W p cs T) (i : Nat) (v : Value) : Bl (W.setCell ⟨p, i, none⟩ v) p (cs.setIfInBounds i v) T := by
  unfold Bl at *
  simp only [World.setCell, Array.getElem?_modify, if_true, h]
  rfl
theorem Bl.other (h : Bl W p cs T) {q : Addr} (hq : q.block ≠ p) (v : Value) : Bl (W.setCell q v) p cs T := by
  unfold Bl at *
  rw [← h]
  simp [World.setCell, Array.getElem?_modify, hq]
end
theorem size_alloc (W : World) (o : Obj) : (W.alloc o).heap.size = W.heap.size + 1 := by show (W.heap.push o).size = _; simp
theorem size_set (W : World) (a : Addr) (v : Value) : (W.setCell a v).heap.size = W.heap.size := by simp [World.setCell]

/-- the world but for the blocks of S -/
def Fx (S : Nat → Prop) (w w' : World) : Prop := w'.os = w.os ∧ w'.tape = w.tape ∧ w'.output = w.output ∧ w.heap.size ≤ w'.heap.size ∧ ∀ k, k < w.heap.size → ¬ S k → w'.heap[k]? = w.heap[k]?
theorem Fx.refl (S : Nat → Prop) (w : World) : Fx S w w := ⟨rfl, rfl, rfl, Nat.le_refl _, fun _ _ _ => rfl⟩
theorem Fx.size {S : Nat → Prop} {w w' : World} (h : Fx S w w') : w.heap.size ≤ w'.heap.size := h.2.2.2.1
theorem Fx.trans {S : Nat → Prop} {a b c : World} (h : Fx S a b) (g : Fx S b c) : Fx S a c :=
  ⟨g.1.trans h.1, g.2.1.trans h.2.1, g.2.2.1.trans h.2.2.1, Nat.le_trans h.size g.size, fun k h1 h2 => (g.2.2.2.2 k (Nat.lt_of_lt_of_le h1 h.size) h2).trans (h.2.2.2.2 k h1 h2)⟩
/-- what is new in the first step may change in the second -/
theorem Fx.then {S S' : Nat → Prop} {a b c : World} (h : Fx S a b) (g : Fx S' b c) (hS : ∀ k, k < a.heap.size → S' k → S k) : Fx S a c :=
  ⟨g.1.trans h.1, g.2.1.trans h.2.1, g.2.2.1.trans h.2.2.1, Nat.le_trans h.size g.size, fun k h1 h2 => (g.2.2.2.2 k (Nat.lt_of_lt_of_le h1 h.size) (fun q => h2 (hS k h1 q))).trans (h.2.2.2.2 k h1 h2)⟩
theorem Fx.of_out {S : Nat → Prop} {w w' : World} (h : Out 0 0 w w') : Fx S w w' := ⟨h.1, h.2.1, h.2.2.1, h.size, fun k h1 _ => h.block h1 (.inr (Nat.zero_le _))⟩
theorem Fx.out {S : Nat → Prop} {w w' : World} (h : Fx S w w') (hS : ∀ k, k < w.heap.size → ¬ S k) : Out 0 0 w w' := ⟨h.1, h.2.1, h.2.2.1, h.size, fun k h1 _ => h.2.2.2.2 k h1 (hS k h1)⟩
theorem Fx.wide {S S' : Nat → Prop} {w w' : World} (h : Fx S w w') (hS : ∀ k, k < w.heap.size → S k → S' k) : Fx S' w w' :=
  ⟨h.1, h.2.1, h.2.2.1, h.size, fun k h1 h2 => h.2.2.2.2 k h1 (fun q => h2 (hS k h1 q))⟩
theorem Fx.heap {S : Nat → Prop} {w w' : World} (h : Fx S w w') {b : Nat} {o : Obj} (hc : w.heap[b]? = some o) (h2 : ¬ S b) : w'.heap[b]? = some o := by
  rw [h.2.2.2.2 b (heap_lt hc) h2]; exact hc
theorem Bl.fx {S : Nat → Prop} {w w' : World} {g : Nat} {cs : Array Value} {T : TypeId} (h : Bl w g cs T) (f : Fx S w w') (h2 : ¬ S g) : Bl w' g cs T := f.heap h h2
theorem Fx.cell {S : Nat → Prop} {w w' : World} (h : Fx S w w') {b o : Nat} {v : Value} (hc : w.cell? ⟨b, o, none⟩ = some v) (h2 : ¬ S b) : w'.cell? ⟨b, o, none⟩ = some v := by
  rw [World.cell?_of_block (w := w) (a := ⟨b, o, none⟩) (h.2.2.2.2 b (cell_lt hc) h2)]
  exact hc
theorem Fx.alloc {S : Nat → Prop} {a w : World} (h : Fx S a w) (o : Obj) : Fx S a (w.alloc o) := h.trans (Fx.of_out ((Out.refl 0 0 w).alloc o))
theorem Fx.set {S : Nat → Prop} {a w : World} (h : Fx S a w) {p : Addr} (hp : S p.block ∨ a.heap.size ≤ p.block) (u : Value) : Fx S a (w.setCell p u) := by
  refine ⟨h.1, h.2.1, h.2.2.1, by have := h.size; simpa [World.setCell] using this, fun k h1 h2 => ?_⟩
  rw [Below.heap_setCell _ _ _ _ (by rintro rfl; rcases hp with hp | hp; exact h2 hp; omega)]
  exact h.2.2.2.2 k h1 h2
theorem Fx.drew {S : Nat → Prop} {a w : World} (h : Fx S a w) : Fx S a w.drew := ⟨h.1, h.2.1, h.2.2.1, h.size, h.2.2.2.2⟩

/-- bytes that lie somewhere -/
def BytesAt (w : World) (a : Option Addr) (t : List Int) : Prop := Byt t ∧ (t = [] ∨ ∃ g off, a = some ⟨g, off, none⟩ ∧ ∀ (j : Nat) b, t[j]? = some b → w.cell? ⟨g, off + j, none⟩ = some (.int .u8 b))
def bvs (t : List Int) : List Value := t.map fun x => .int .u8 x
theorem bvs_len (t : List Int) : (bvs t).length = t.length := by unfold bvs; simp
theorem bvs_app (s t : List Int) : bvs (s ++ t) = bvs s ++ bvs t := by unfold bvs; simp
theorem info_u8 : (Tryz.prog.info? 5).map (fun i => (i.zero, i.size, i.bytes)) = some (some (.int .u8 0), 1, 1) := by kernel_rfl
theorem info_p {E : TypeId} {z : Value} {sz by_ : Nat} (h : (Tryz.prog.info? E).map (fun i => (i.zero, i.size, i.bytes)) = some (some z, sz, by_)) : ∃ i0, Tryz.prog.info? E = some i0 ∧ i0.zero = some z ∧ i0.size = sz ∧ i0.bytes = by_ := by
  obtain ⟨i0, h0, h1⟩ := Option.map_eq_some_iff.1 h
  simp only [Prod.mk.injEq] at h1
  exact ⟨i0, h0, h1.1, h1.2.1, h1.2.2⟩
/-- what a writer keeps of the bytes: all, as long as they are not too many -/
def Cut (F bs : List Int) : Prop := bs.length ≤ 70000 ∧ ((F.length ≤ 65536 ∧ bs = F) ∨ (65536 < F.length ∧ 65536 < bs.length))
theorem Cut.up {F bs x : List Int} (h : Cut F bs) (hb : bs.length ≤ 65536) (hx : x.length ≤ 4096) : Cut (F ++ x) (bs ++ x) := by
  obtain ⟨h1, h2 | h2⟩ := h
  · obtain ⟨h3, rfl⟩ := h2
    refine ⟨by rw [List.length_append]; omega, ?_⟩
    by_cases h4 : (bs ++ x).length ≤ 65536
    · exact .inl ⟨h4, rfl⟩
    · exact .inr ⟨by omega, by omega⟩
  · omega
theorem Cut.full {F bs x : List Int} (h : Cut F bs) (hb : 65536 < bs.length) : Cut (F ++ x) bs := by
  obtain ⟨h1, h2 | h2⟩ := h
  · obtain ⟨h3, rfl⟩ := h2; omega
  · exact ⟨h1, .inr ⟨by rw [List.length_append]; omega, h2.2⟩⟩
/-- what a step of the writer at p leaves -/
def St (p : Nat) (o : Option Nat) (w : World) (o' : Option Nat) (w' : World) : Prop := Fx (fun k => k = p ∨ o = some k) w w' ∧ (o' = o ∨ ∃ g, o' = some g ∧ w.heap.size ≤ g)
theorem St.refl (p : Nat) (o : Option Nat) (w : World) : St p o w o w := ⟨Fx.refl _ _, .inl rfl⟩
theorem St.trans {p : Nat} {o o1 o2 : Option Nat} {w w1 w2 : World} (h : St p o w o1 w1) (g : St p o1 w1 o2 w2) : St p o w o2 w2 := by
  obtain ⟨h1, h2⟩ := h
  obtain ⟨g1, g2⟩ := g
  refine ⟨h1.then g1 fun k hk hq => ?_, ?_⟩
  · rcases hq with hq | hq
    · exact .inl hq
    · rcases h2 with rfl | ⟨x, rfl, hx⟩
      · exact .inr hq
      · cases hq; omega
  · rcases g2 with rfl | ⟨x, rfl, hx⟩
    · rcases h2 with rfl | ⟨x, rfl, hx⟩
      · exact .inl rfl
      · exact .inr ⟨x, rfl, hx⟩
    · exact .inr ⟨x, rfl, Nat.le_trans h1.size hx⟩
theorem St.alloc {p : Nat} {o o' : Option Nat} {w w' : World} (h : St p o w o' w') (x : Obj) : St p o w o' (w'.alloc x) := ⟨h.1.alloc x, h.2⟩
theorem St.quiet {p : Nat} {o o' : Option Nat} {w w' w2 : World} (h : St p o w o' w') (x : Out 0 0 w' w2) : St p o w o' w2 := ⟨h.1.trans (Fx.of_out x), h.2⟩
theorem St.size {p : Nat} {o o' : Option Nat} {w w' : World} (h : St p o w o' w') : w.heap.size ≤ w'.heap.size := h.1.size
theorem St.bl {p g : Nat} {o o' : Option Nat} {w w' : World} {cs : Array Value} {T : TypeId} (h : St p o w o' w') (b : Bl w g cs T) (h1 : g ≠ p) (h2 : o ≠ some g) : Bl w' g cs T := b.fx h.1 (by rintro (q | q); exact h1 q; exact h2 q)
/-- a block that the writer has not -/
theorem St.off {p g : Nat} {o o' : Option Nat} {w w' : World} (h : St p o w o' w') (hg : g < w.heap.size) (h2 : o ≠ some g) : o' ≠ some g := by
  rcases h.2 with e | ⟨x, e, hx⟩
  · rw [e]; exact h2
  · rw [e]; intro q; cases q; omega
theorem own_fx {S : Nat → Prop} {w w' : World} {v : Value} {base k sz : Nat} {xs : List Value} {T : TypeId} (h : w.ownsRow base T sz v k xs) (x : Fx S w w') (h2 : ∀ g, v.ownBlock = some g → ¬ S g) : w'.ownsRow base T sz v k xs := by
  obtain ⟨hlen, hcase⟩ := h
  refine ⟨hlen, ?_⟩
  rcases hcase with ⟨hv, h0⟩ | ⟨g, cap', cur, rfl, hg1, hg2, hg3⟩
  · exact .inl ⟨hv, h0⟩
  · exact .inr ⟨g, cap', cur, rfl, hg1, x.heap hg2 (h2 g rfl), hg3⟩
theorem own_ge {w : World} {v : Value} {base k sz : Nat} {xs : List Value} {T : TypeId} (h : w.ownsRow base T sz v k xs) {g : Nat} (e : v.ownBlock = some g) : base ≤ g ∧ g < w.heap.size := by
  rcases h.2 with ⟨rfl, _⟩ | ⟨g1, cap', cur, rfl, hg1, hg2, hg3⟩
  · cases e
  · have : g1 = g := Option.some.inj e
    subst this
    exact ⟨hg1, heap_lt hg2⟩
end Go.Proofs.YtocncffplcfpbaaGreatDoor
