/- LayoutAll: its state -/
import Derived.Test.YtoajgbgmiionpaaDoorYy
namespace Go.Proofs.YtoajgbgmiionpaaDoor
open Go.RowKit
set_option linter.unusedVariables false
set_option linter.unusedSimpArgs false

theorem Keep.arrive {B : Nat} {w w' : World} {b : Nat} {vL vW vS vM : Value} {L Wr Ls : List Value} {Mk : List Nat} {C : Nat → List Nat} {col : Nat → Nat} {p : Nat} {u : Bool} {v : Value} {c : List Nat}
    (h : Keep B w b vL vW vS vM L Wr Ls Mk C col none p u) (o : Out 0 0 w w') (hl : ListIs w' w.heap.size v c) (cc : Nat) :
    ∃ col', (∀ x, x < w.heap.size → col' x = col x) ∧ Keep B w' b vL vW vS vM L Wr Ls Mk C col' none p u ∧ ListIs w' B v c ∧ ∀ x, v.ownBlock = some x → col' x = cc := by
  have hl2 : ListIs w' B v c := own_mono hl h.hB
  cases hb : v.ownBlock with
  | none => exact ⟨col, fun _ _ => rfl, h.quiet o, hl2, fun x hx => by cases hx⟩
  | some g =>
    have hg := (hl.lt g hb).1
    refine ⟨upd col g cc, fun x hx => upd_other (by omega), (h.recol (upd col g cc) fun x hx _ => upd_other (by omega)).quiet o, hl2, fun x hx => ?_⟩
    cases hx
    exact upd_self _ _ _
/-- what is kept, and a block that stays -/
def St (B b X : Nat) (o : Obj) (w : World) (nq nm : Nat) : Prop :=
  ∃ vL vW vS vM L Wr Ls Mk C col, Keep B w b vL vW vS vM L Wr Ls Mk C col none 0 true ∧ Wr.length = L.length ∧ L.length = nq ∧ Ls.length = Mk.length ∧ Mk.length = nm ∧ col X = 7 ∧ w.heap[X]? = some o
theorem St.hB {B b X : Nat} {o : Obj} {w : World} {nq nm : Nat} (h : St B b X o w nq nm) : B ≤ w.heap.size := by
  obtain ⟨vL, vW, vS, vM, L, Wr, Ls, Mk, C, col, hk, _⟩ := h
  exact hk.hB
theorem St.hX {B b X : Nat} {o : Obj} {w : World} {nq nm : Nat} (h : St B b X o w nq nm) : w.heap[X]? = some o := by
  obtain ⟨vL, vW, vS, vM, L, Wr, Ls, Mk, C, col, hk, h1, h2, h3, h4, h5, h6⟩ := h
  exact h6
theorem St.out {B b X : Nat} {o : Obj} {w w' : World} {nq nm : Nat} (h : St B b X o w nq nm) (ho : Out 0 0 w w') : St B b X o w' nq nm := by
  obtain ⟨vL, vW, vS, vM, L, Wr, Ls, Mk, C, col, hk, h1, h2, h3, h4, h5, h6⟩ := h
  exact ⟨vL, vW, vS, vM, L, Wr, Ls, Mk, C, col, hk.quiet ho, h1, h2, h3, h4, h5, ho.heap h6 (.inr (Nat.zero_le _))⟩
theorem St.box {B b X : Nat} {o : Obj} {w : World} {nq nm : Nat} (h : St B b X o w nq nm) (o' : Obj) : St B b w.heap.size o' (w.alloc o') nq nm := by
  obtain ⟨vL, vW, vS, vM, L, Wr, Ls, Mk, C, col, hk, h1, h2, h3, h4, h5, h6⟩ := h
  exact ⟨vL, vW, vS, vM, L, Wr, Ls, Mk, C, upd col w.heap.size 7, (hk.recol (upd col w.heap.size 7) fun x hx _ => upd_other (by omega)).quiet ((Out.refl 0 0 _).alloc _), h1, h2, h3, h4, upd_self _ _ _, heap_alloc_new _ _⟩
theorem St.first {B : Nat} {w1 : World} (hB : w1.heap.size = B) (h0 : 0 < B) {o : Obj} (hX : w1.heap[0]? = some o) :
    St B B 0 o (w1.alloc (.cells #[.slice none 0 0, .slice none 0 0, .slice none 0 0, .slice none 0 0] 32)) 0 0 := by
  refine ⟨.slice none 0 0, .slice none 0 0, .slice none 0 0, .slice none 0 0, [], [], [], [], fun _ => [], fun k => if k < B then 7 else if k = B then 0 else 9, ?_, rfl, rfl, rfl, rfl, if_pos h0, ?_⟩
  · refine { lo := fun k hk => by rw [if_pos hk], hB := by simp; omega, hb := by rw [← hB]; exact heap_alloc_new _ _, cb := by rw [if_neg (by omega), if_pos rfl], oL := World.ownsRow_nil _ _ _ _, oW := World.ownsRow_nil _ _ _ _, oS := World.ownsRow_nil _ _ _ _, oM := World.ownsRow_nil _ _ _ _, cL := (fun x hx => by cases hx), cW := (fun x hx => by cases hx), cS := (fun x hx => by cases hx), cM := (fun x hx => by cases hx), q := (fun i v _ hv => by simp at hv), wr := (fun _ i v hv => by simp at hv), f := (fun i v m hv _ => by simp at hv) }
  · rw [heap_alloc_old _ _ (by omega)]; exact hX
theorem St.quietCall {B b X : Nat} {o : Obj} {w w' : World} {nq nm : Nat} {v : Value} {c : List Nat} (h : St B b X o w nq nm) (ho : Out 0 0 w w') (hl : ListIs w' w.heap.size v c) (hc : c.length ≤ 1024) (hq : nq ≤ 2000) :
    Calls Tryd.prog 15 #[.pointer (some ⟨b, 0, none⟩), v] w' fun e w'' => e = .returned (.tuple #[]) ∧ St B b X o w'' (nq + 1) nm ∧ Below B w' w'' := by
  obtain ⟨vL, vW, vS, vM, L, Wr, Ls, Mk, C, col, hk, h1, h2, h3, h4, h5, h6⟩ := h
  have k0 : Keep B w b vL vW vS vM L Wr Ls Mk (fun k => if k = L.length then c else C k) col none 0 true := hk.setC (fun i hi => by rw [if_neg (by omega)]) (by omega)
  obtain ⟨col', e1, k1, l1, c1⟩ := k0.arrive ho hl (10 + L.length)
  refine (quiet_any k1 (by rw [if_pos rfl]; exact l1) c1 h1 (Nat.zero_le _) (by omega) (by rw [if_pos rfl]; exact hc)).mono ?_
  rintro e w'' ⟨rfl, xL, xW, x, xcol, k2, fx⟩
  have h7 : col' X = 7 := by rw [e1 X (heap_lt h6)]; exact h5
  have hx' := ho.heap h6 (.inr (Nat.zero_le _))
  refine ⟨rfl, ⟨xL, xW, vS, vM, _, _, Ls, Mk, _, xcol, k2, by rw [List.length_append, List.length_append, h1]; rfl, by rw [List.length_append, h2]; rfl, h3, h4, fx.2 X (heap_lt hx') h7, fx.heap hx' h7⟩, k1.fixed fx⟩
theorem St.markedCall {B b X : Nat} {o : Obj} {w w' : World} {nq nm : Nat} {v : Value} {c : List Nat} (h : St B b X o w nq nm) (ho : Out 0 0 w w') (hl : ListIs w' w.heap.size v c) (hc : c.length ≤ 1024) (hq : nm ≤ 6000) :
    Calls Tryd.prog 16 #[.pointer (some ⟨b, 0, none⟩), v] w' fun e w'' => e = .returned (.tuple #[]) ∧ St B b X o w'' nq (nm + 18) ∧ Below B w' w'' := by
  obtain ⟨vL, vW, vS, vM, L, Wr, Ls, Mk, C, col, hk, h1, h2, h3, h4, h5, h6⟩ := h
  obtain ⟨col', e1, k1, l1, c1⟩ := hk.arrive ho hl 8
  refine (marked_any k1 l1 c1 h3 (by omega) hc).mono ?_
  rintro e w'' ⟨rfl, xS, xM, xLs, xMk, xcol, k2, k3, k4, fx⟩
  have h7 : col' X = 7 := by rw [e1 X (heap_lt h6)]; exact h5
  have hx' := ho.heap h6 (.inr (Nat.zero_le _))
  exact ⟨rfl, ⟨vL, vW, xS, xM, L, Wr, xLs, xMk, C, xcol, k2, h1, h2, k3, by rw [k4, h4], fx.2 X (heap_lt hx') h7, fx.heap hx' h7⟩, k1.fixed fx⟩
theorem St.apartCall {B b X : Nat} {o : Obj} {w : World} {nq nm : Nat} (h : St B b X o w nq nm) (hq : nq ≤ 200) (hm : nm ≤ 1800) :
    Calls Tryd.prog 17 #[.pointer (some ⟨b, 0, none⟩)] w fun e w' => e = .returned (.bool true) ∧ Below B w w' := by
  obtain ⟨vL, vW, vS, vM, L, Wr, Ls, Mk, C, col, hk, h1, h2, h3, h4, h5, h6⟩ := h
  exact apart_any hk h1 (by omega) h3 (by omega)
theorem below_cell {B : Nat} {w w' : World} (h : Below B w w') {b i : Nat} {v : Value} (hc : w.cell? ⟨b, i, none⟩ = some v) (hb : b < B) : w'.cell? ⟨b, i, none⟩ = some v := by
  rw [World.cell?_of_block (w := w) (a := ⟨b, i, none⟩) (h.block b hb)]
  exact hc
theorem Tab.below {B : Nat} {w w' : World} (h : Tab w) (g : Below B w w') (hB : 0 < B) : Tab w' := fun j hj => ⟨below_cell g (h j hj).1 hB, below_cell g (h j hj).2 hB⟩
/-! the script -/
def AskAt (W : World) (b off : Nat) (q : Int × Int × Int × Int) : Prop := W.cell? ⟨b, off, none⟩ = some (.int .i64 q.1) ∧ W.cell? ⟨b, off + 1, none⟩ = some (.int .i64 q.2.1) ∧ W.cell? ⟨b, off + 2, none⟩ = some (.int .i64 q.2.2.1) ∧ W.cell? ⟨b, off + 3, none⟩ = some (.int .i64 q.2.2.2) ∧
  -9223372036854775808 ≤ q.2.2.1 ∧ q.2.2.1 ≤ 9223372036854775807
def Asks (W : World) (b off len : Nat) (q : Nat → Int × Int × Int × Int) : Prop := ∀ i, i < len → AskAt W b (off + i * 4) (q i)
theorem Asks.kept {W W' : World} {b off len B : Nat} {q : Nat → Int × Int × Int × Int} (h : Asks W b off len q) (hb : Below B W W') (hB : W.heap.size ≤ B) : Asks W' b off len q := by
  intro i hi
  obtain ⟨c0, c1, c2, c3, r⟩ := h i hi
  have hl : b < B := Nat.lt_of_lt_of_le (cell_lt c0) hB
  exact ⟨below_cell hb c0 hl, below_cell hb c1 hl, below_cell hb c2 hl, below_cell hb c3 hl, r⟩
end Go.Proofs.YtoajgbgmiionpaaDoor
