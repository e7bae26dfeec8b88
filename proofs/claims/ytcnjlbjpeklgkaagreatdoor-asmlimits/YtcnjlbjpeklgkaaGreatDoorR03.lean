import Derived.Test.YtcnjlbjpeklgkaaGreatDoorR02
import Derived.Laws.ResultCell
import Derived.Laws.Rows
import Derived.Deep.AppendLies
import Derived.Deep.Upon
import Derived.Laws.BytesArg
import Derived.Defers
import Derived.Recover
import Derived.WalkSmall
import Derived.Test.YtcnjlbjpeklgkaaGreatDoorProg
namespace Go.Proofs.YtcnjlbjpeklgkaaGreatDoor
open Go.RowKit
set_option linter.unusedVariables false
set_option linter.unusedSimpArgs false

/-- block p holds these cells -/
def Bl (W : World) (p : Nat) (cs : Array Value) (T : TypeId) : Prop := W.heap[p]? = some (.cells cs T (0, 0))
section
variable {W W' : World} {p lo hi : Nat} {cs : Array Value} {T : TypeId}
theorem Bl.cell (h : Bl W p cs T) {i : Nat} {v : Value} (hi : cs[i]? = some v) : W.cell? ⟨p, i, none⟩ = some v := by
  unfold Bl at h; simp [World.cell?, h, hi]
theorem Bl.frozen (h : Bl W p cs T) (i : Nat) : W.frozen? ⟨p, i, none⟩ = false := by
  unfold Bl at h; simp [World.frozen?, h]
theorem Bl.lt (h : Bl W p cs T) : p < W.heap.size := heap_lt h
theorem Bl.kept (h : Bl W p cs T) (g : Out lo hi W W') (h2 : p < lo ∨ hi ≤ p) : Bl W' p cs T := g.heap h h2
theorem Bl.alloc (h : Bl W p cs T) (o : Obj) : Bl (W.alloc o) p cs T := by
  have hl := h.lt
  unfold Bl at *; rw [heap_alloc_old _ _ hl]; exact h
theorem Bl.new (W : World) (cs : Array Value) (T : TypeId) : Bl (W.alloc (.cells cs T)) W.heap.size cs T := heap_alloc_new _ _
theorem Bl.set (h : Bl W p cs T) (i : Nat) (v : Value) : Bl (W.setCell ⟨p, i, none⟩ v) p (cs.setIfInBounds i v) T := by
  unfold Bl at *
  simp only [World.setCell, Array.getElem?_modify, if_true, h]
  rfl
theorem Bl.other (h : Bl W p cs T) {q : Addr} (hq : q.block ≠ p) (v : Value) : Bl (W.setCell q v) p cs T := by
  unfold Bl at *
  rw [← h]
  simp [World.setCell, Array.getElem?_modify, hq]
end
theorem size_alloc (W : World) (o : Obj) : (W.alloc o).heap.size = W.heap.size + 1 := by show (W.heap.push o).size = _; simp
theorem size_set (W : World) (a : Addr) (v : Value) : (W.setCell a v).heap.size = W.heap.size := by simp [World.setCell]

/-- the world but for the blocks of S -/
def Fx (S : Nat → Prop) (w w' : World) : Prop := w'.os = w.os ∧ w'.tape = w.tape ∧ w'.output = w.output ∧ w.heap.size ≤ w'.heap.size ∧ ∀ k, k < w.heap.size → ¬ S k → w'.heap[k]? = w.heap[k]?
theorem Fx.refl (S : Nat → Prop) (w : World) : Fx S w w := ⟨rfl, rfl, rfl, Nat.le_refl _, fun _ _ _ => rfl⟩
theorem Fx.size {S : Nat → Prop} {w w' : World} (h : Fx S w w') : w.heap.size ≤ w'.heap.size := h.2.2.2.1
theorem Fx.trans {S : Nat → Prop} {a b c : World} (h : Fx S a b) (g : Fx S b c) : Fx S a c :=
  ⟨g.1.trans h.1, g.2.1.trans h.2.1, g.2.2.1.trans h.2.2.1, Nat.le_trans h.size g.size, fun k h1 h2 => (g.2.2.2.2 k (Nat.lt_of_lt_of_le h1 h.size) h2).trans (h.2.2.2.2 k h1 h2)⟩
/-- what is new in the first step may change in the second -/
theorem Fx.then {S S' : Nat → Prop} {a b c : World} (h : Fx S a b) (g : Fx S' b c) (hS : ∀ k, k < a.heap.size → S' k → S k) : Fx S a c :=
  ⟨g.1.trans h.1, g.2.1.trans h.2.1, g.2.2.1.trans h.2.2.1, Nat.le_trans h.size g.size, fun k h1 h2 => (g.2.2.2.2 k (Nat.lt_of_lt_of_le h1 h.size) (fun q => h2 (hS k h1 q))).trans (h.2.2.2.2 k h1 h2)⟩
theorem Fx.of_out {S : Nat → Prop} {w w' : World} (h : Out 0 0 w w') : Fx S w w' := ⟨h.1, h.2.1, h.2.2.1, h.size, fun k h1 _ => h.block h1 (.inr (Nat.zero_le _))⟩
theorem Fx.out {S : Nat → Prop} {w w' : World} (h : Fx S w w') (hS : ∀ k, k < w.heap.size → ¬ S k) : Out 0 0 w w' := ⟨h.1, h.2.1, h.2.2.1, h.size, fun k h1 _ => h.2.2.2.2 k h1 (hS k h1)⟩
theorem Fx.wide {S S' : Nat → Prop} {w w' : World} (h : Fx S w w') (hS : ∀ k, k < w.heap.size → S k → S' k) : Fx S' w w' :=
  ⟨h.1, h.2.1, h.2.2.1, h.size, fun k h1 h2 => h.2.2.2.2 k h1 (fun q => h2 (hS k h1 q))⟩
theorem Fx.heap {S : Nat → Prop} {w w' : World} (h : Fx S w w') {b : Nat} {o : Obj} (hc : w.heap[b]? = some o) (h2 : ¬ S b) : w'.heap[b]? = some o := by
  rw [h.2.2.2.2 b (heap_lt hc) h2]; exact hc
theorem Bl.fx {S : Nat → Prop} {w w' : World} {g : Nat} {cs : Array Value} {T : TypeId} (h : Bl w g cs T) (f : Fx S w w') (h2 : ¬ S g) : Bl w' g cs T := f.heap h h2
theorem Fx.cell {S : Nat → Prop} {w w' : World} (h : Fx S w w') {b o : Nat} {v : Value} (hc : w.cell? ⟨b, o, none⟩ = some v) (h2 : ¬ S b) : w'.cell? ⟨b, o, none⟩ = some v := by
  rw [World.cell?_of_block (w := w) (a := ⟨b, o, none⟩) (h.2.2.2.2 b (cell_lt hc) h2)]
  exact hc
theorem Fx.alloc {S : Nat → Prop} {a w : World} (h : Fx S a w) (o : Obj) : Fx S a (w.alloc o) := h.trans (Fx.of_out ((Out.refl 0 0 w).alloc o))
theorem Fx.set {S : Nat → Prop} {a w : World} (h : Fx S a w) {p : Addr} (hp : S p.block ∨ a.heap.size ≤ p.block) (u : Value) : Fx S a (w.setCell p u) := by
  refine ⟨h.1, h.2.1, h.2.2.1, by have := h.size; simpa [World.setCell] using this, fun k h1 h2 => ?_⟩
  rw [Below.heap_setCell _ _ _ _ (by rintro rfl; rcases hp with hp | hp; exact h2 hp; omega)]
  exact h.2.2.2.2 k h1 h2
theorem Fx.drew {S : Nat → Prop} {a w : World} (h : Fx S a w) : Fx S a w.drew := ⟨h.1, h.2.1, h.2.2.1, h.size, h.2.2.2.2⟩

/-- bytes that lie somewhere -/
def BytesAt (w : World) (a : Option Addr) (t : List Int) : Prop := Byt t ∧ (t = [] ∨ ∃ g off, a = some ⟨g, off, none⟩ ∧ ∀ (j : Nat) b, t[j]? = some b → w.cell? ⟨g, off + j, none⟩ = some (.int .u8 b))
def bvs (t : List Int) : List Value := t.map fun x => .int .u8 x
theorem bvs_len (t : List Int) : (bvs t).length = t.length := by unfold bvs; simp
theorem bvs_app (s t : List Int) : bvs (s ++ t) = bvs s ++ bvs t := by unfold bvs; simp
theorem info_u8 : (Tryz.prog.info? 5).map (fun i => (i.zero, i.size, i.bytes)) = some (some (.int .u8 0), 1, 1) := by kernel_rfl
theorem info_p {E : TypeId} {z : Value} {sz by_ : Nat} (h : (Tryz.prog.info? E).map (fun i => (i.zero, i.size, i.bytes)) = some (some z, sz, by_)) : ∃ i0, Tryz.prog.info? E = some i0 ∧ i0.zero = some z ∧ i0.size = sz ∧ i0.bytes = by_ := by
  obtain ⟨i0, h0, h1⟩ := Option.map_eq_some_iff.1 h
  simp only [Prod.mk.injEq] at h1
  exact ⟨i0, h0, h1.1, h1.2.1, h1.2.2⟩
theorem run_none (w : World) (ty : TypeId) (ta p : Option Addr) (K cap c : Nat) (hle : K ≤ cap) : (Builtin.append_ #[50, 50] ty #[.slice ta K cap, .slice p 0 c]).run Tryz.prog w = .ok (.slice ta K cap) w := by
  obtain ⟨i0, hi, hz0, hz1, hz2⟩ := info_p info_u8
  cases p <;> cases ta <;> simp [Builtin.append_, run_underlying Tryz.underlying50, sizeOf, typeInfo, hi, Builtin.lenOf, Builtin.firstCells, loadCells, loadCellsFrom, storeCells, hle]
/-- bytes behind those that a writer has -/
theorem app_run {w : World} {base K n cap c : Nat} {ta ra : Option Addr} {bs x : List Int} (ty : TypeId) (hown : w.ownsRow base 5 1 (.slice ta K cap) K (bvs bs)) (hbs : base ≤ w.heap.size) (hx : BytesAt w ra x) (hn : x.length = n) (hK : K ≤ 1000000) (hn2 : n ≤ 1000000) :
    ∃ a' cap' w', (Builtin.append_ #[50, 50] ty #[.slice ta K cap, .slice ra n c]).run Tryz.prog w = .ok (.slice a' (K + n) cap') w' ∧ w'.ownsRow base 5 1 (.slice a' (K + n) cap') (K + n) (bvs (bs ++ x)) ∧ Fx (fun k => (Value.slice ta K cap).ownBlock = some k) w w' ∧
      ((Value.slice a' (K + n) cap').ownBlock = (Value.slice ta K cap).ownBlock ∨ ∃ g, (Value.slice a' (K + n) cap').ownBlock = some g ∧ w.heap.size ≤ g) := by
  rcases hx.2 with rfl | ⟨g, off, rfl, hc⟩
  · have : n = 0 := hn.symm
    subst this
    refine ⟨ta, cap, w, run_none w ty ta ra K cap c ?_, by rw [List.append_nil]; exact hown, Fx.refl _ _, .inl rfl⟩
    rcases hown.2 with ⟨h1, h2⟩ | ⟨g, c2, cur, h1, _, _, h4, _⟩
    · omega
    · cases h1; exact h4
  · by_cases h0 : n = 0
    · subst h0
      have : x = [] := List.eq_nil_of_length_eq_zero hn
      subst this
      refine ⟨ta, cap, w, run_none w ty ta _ K cap c ?_, by rw [List.append_nil]; exact hown, Fx.refl _ _, .inl rfl⟩
      rcases hown.2 with ⟨h1, h2⟩ | ⟨g, c2, cur, h1, _, _, h4, _⟩
      · omega
      · cases h1; exact h4
    · obtain ⟨i0, hi0, hz0, hz1, hz2⟩ := info_p info_u8
      obtain ⟨g4, cap', w', hrun, hown', hgrow, hat, _⟩ := run_append_lies (P := Tryz.prog) w 50 ty base 5 i0 (.int .u8 0) 1 1 Tryz.underlying50 hi0 hz0 hz1 hz2 rfl (by decide) (.slice ta K cap) K (bvs bs) hown ⟨g, off, none⟩ n c (bvs x) (by rw [bvs_len, hn, Nat.mul_one]) (by
          intro j u hj
          unfold bvs at hj
          rw [List.getElem?_map] at hj
          obtain ⟨y, hy1, rfl⟩ := Option.map_eq_some_iff.1 hj
          rw [Addr.add_lit]
          exact hc j y hy1) (by intro u hu; unfold bvs at hu; obtain ⟨y, _, rfl⟩ := List.mem_map.1 hu; rfl) (by omega) (by unfold maxLen; omega) (by omega) hbs w.heap.size rfl
      refine ⟨some ⟨g4, 0, none⟩, cap', w', hrun, by rw [bvs_app]; exact hown', ⟨hgrow.os, hgrow.tape, hgrow.output, hgrow.size, fun k h1 h2 => hgrow.block k h1 (fun e => h2 e.symm)⟩, ?_⟩
      rcases hat with h | h
      · exact .inl h.symm
      · exact .inr ⟨g4, rfl, Nat.le_of_eq h.symm⟩

/-- what a writer keeps of the bytes: all, as long as they are not too many -/
def Cut (F bs : List Int) : Prop := bs.length ≤ 70000 ∧ ((F.length ≤ 65536 ∧ bs = F) ∨ (65536 < F.length ∧ 65536 < bs.length))
theorem Cut.up {F bs x : List Int} (h : Cut F bs) (hb : bs.length ≤ 65536) (hx : x.length ≤ 4096) : Cut (F ++ x) (bs ++ x) := by
  obtain ⟨h1, h2 | h2⟩ := h
  · obtain ⟨h3, rfl⟩ := h2
    refine ⟨by rw [List.length_append]; omega, ?_⟩
    by_cases h4 : (bs ++ x).length ≤ 65536
    · exact .inl ⟨h4, rfl⟩
    · exact .inr ⟨by omega, by omega⟩
  · omega
theorem Cut.full {F bs x : List Int} (h : Cut F bs) (hb : 65536 < bs.length) : Cut (F ++ x) bs := by
  obtain ⟨h1, h2 | h2⟩ := h
  · obtain ⟨h3, rfl⟩ := h2; omega
  · exact ⟨h1, .inr ⟨by rw [List.length_append]; omega, h2.2⟩⟩
/-- the writer at p holds the bytes; o: their block -/
def WR (w : World) (p : Nat) (o : Option Nat) (F : List Int) : Prop := ∃ (ta : Option Addr) (K cap : Nat) (bs : List Int), Cut F bs ∧ bs.length = K ∧ Bl w p #[.slice ta K cap] 103 ∧ w.ownsRow (p + 1) 5 1 (.slice ta K cap) K (bvs bs) ∧ (Value.slice ta K cap).ownBlock = o
/-- what a step of the writer at p leaves -/
def St (p : Nat) (o : Option Nat) (w : World) (o' : Option Nat) (w' : World) : Prop := Fx (fun k => k = p ∨ o = some k) w w' ∧ (o' = o ∨ ∃ g, o' = some g ∧ w.heap.size ≤ g)
theorem St.refl (p : Nat) (o : Option Nat) (w : World) : St p o w o w := ⟨Fx.refl _ _, .inl rfl⟩
theorem St.trans {p : Nat} {o o1 o2 : Option Nat} {w w1 w2 : World} (h : St p o w o1 w1) (g : St p o1 w1 o2 w2) : St p o w o2 w2 := by
  obtain ⟨h1, h2⟩ := h
  obtain ⟨g1, g2⟩ := g
  refine ⟨h1.then g1 fun k hk hq => ?_, ?_⟩
  · rcases hq with hq | hq
    · exact .inl hq
    · rcases h2 with rfl | ⟨x, rfl, hx⟩
      · exact .inr hq
      · cases hq; omega
  · rcases g2 with rfl | ⟨x, rfl, hx⟩
    · rcases h2 with rfl | ⟨x, rfl, hx⟩
      · exact .inl rfl
      · exact .inr ⟨x, rfl, hx⟩
    · exact .inr ⟨x, rfl, Nat.le_trans h1.size hx⟩
theorem St.alloc {p : Nat} {o o' : Option Nat} {w w' : World} (h : St p o w o' w') (x : Obj) : St p o w o' (w'.alloc x) := ⟨h.1.alloc x, h.2⟩
theorem St.quiet {p : Nat} {o o' : Option Nat} {w w' w2 : World} (h : St p o w o' w') (x : Out 0 0 w' w2) : St p o w o' w2 := ⟨h.1.trans (Fx.of_out x), h.2⟩
theorem St.size {p : Nat} {o o' : Option Nat} {w w' : World} (h : St p o w o' w') : w.heap.size ≤ w'.heap.size := h.1.size
theorem St.bl {p g : Nat} {o o' : Option Nat} {w w' : World} {cs : Array Value} {T : TypeId} (h : St p o w o' w') (b : Bl w g cs T) (h1 : g ≠ p) (h2 : o ≠ some g) : Bl w' g cs T := b.fx h.1 (by rintro (q | q); exact h1 q; exact h2 q)
/-- a block that the writer has not -/
theorem St.off {p g : Nat} {o o' : Option Nat} {w w' : World} (h : St p o w o' w') (hg : g < w.heap.size) (h2 : o ≠ some g) : o' ≠ some g := by
  rcases h.2 with e | ⟨x, e, hx⟩
  · rw [e]; exact h2
  · rw [e]; intro q; cases q; omega
theorem own_fx {S : Nat → Prop} {w w' : World} {v : Value} {base k sz : Nat} {xs : List Value} {T : TypeId} (h : w.ownsRow base T sz v k xs) (x : Fx S w w') (h2 : ∀ g, v.ownBlock = some g → ¬ S g) : w'.ownsRow base T sz v k xs := by
  obtain ⟨hlen, hcase⟩ := h
  refine ⟨hlen, ?_⟩
  rcases hcase with ⟨hv, h0⟩ | ⟨g, cap', cur, rfl, hg1, hg2, hg3⟩
  · exact .inl ⟨hv, h0⟩
  · exact .inr ⟨g, cap', cur, rfl, hg1, x.heap hg2 (h2 g rfl), hg3⟩
theorem own_ge {w : World} {v : Value} {base k sz : Nat} {xs : List Value} {T : TypeId} (h : w.ownsRow base T sz v k xs) {g : Nat} (e : v.ownBlock = some g) : base ≤ g ∧ g < w.heap.size := by
  rcases h.2 with ⟨rfl, _⟩ | ⟨g1, cap', cur, rfl, hg1, hg2, hg3⟩
  · cases e
  · have : g1 = g := Option.some.inj e
    subst this
    exact ⟨hg1, heap_lt hg2⟩
theorem WR.fx {S : Nat → Prop} {w w' : World} {p : Nat} {o : Option Nat} {F : List Int} (h : WR w p o F) (x : Fx S w w') (h1 : ¬ S p) (h2 : ∀ g, o = some g → ¬ S g) : WR w' p o F := by
  obtain ⟨ta, K, cap, bs, a1, a2, a3, a4, a5⟩ := h
  exact ⟨ta, K, cap, bs, a1, a2, a3.fx x h1, own_fx a4 x (fun g hg => h2 g (a5.symm.trans hg)), a5⟩
theorem WR.quiet {w w' : World} {p : Nat} {o : Option Nat} {F : List Int} (h : WR w p o F) (x : Out 0 0 w w') : WR w' p o F := h.fx (S := fun _ => False) (Fx.of_out x) (fun q => q) (fun _ _ q => q)
theorem WR.alloc {w : World} {p : Nat} {o : Option Nat} {F : List Int} (h : WR w p o F) (x : Obj) : WR (w.alloc x) p o F := h.quiet ((Out.refl 0 0 w).alloc x)
theorem WR.lt {w : World} {p : Nat} {o : Option Nat} {F : List Int} (h : WR w p o F) : p < w.heap.size := by
  obtain ⟨ta, K, cap, bs, a1, a2, a3, a4, a5⟩ := h
  exact a3.lt
theorem WR.off {w : World} {p g : Nat} {o : Option Nat} {F : List Int} (h : WR w p o F) (hg : w.heap.size ≤ g) : o ≠ some g := by
  obtain ⟨ta, K, cap, bs, a1, a2, a3, a4, a5⟩ := h
  intro q
  have := (own_ge a4 (a5.trans q)).2
  omega
end Go.Proofs.YtcnjlbjpeklgkaaGreatDoor
namespace Go.Proofs.YtcnjlbjpeklgkaaGreatDoor
open Go.RowKit
set_option linter.unusedVariables false
set_option linter.unusedSimpArgs false

/-- what a panic carries: an error and its place -/
def stopP (e a : Int) : PanicEntry := { v := .iface 138 (.agg #[.int .i64 e, .int .i64 a]), recovered := false }
theorem want_yes (e a : Int) (w : World) : Calls Tryz.prog 52 #[.bool true, .int .i64 e, .int .i64 a] w fun x w' => x = .returned (.tuple #[]) ∧ w' = w := by
  go_enter Tryz.func52, Tryz.ntmps52
  go_wp2
  exact bodyPost_end (results_none Tryz.results52 _ _ _) rfl ⟨rfl, rfl⟩
theorem want_no (e a : Int) (w : World) : Calls Tryz.prog 52 #[.bool false, .int .i64 e, .int .i64 a] w fun x w' => x = .panicked [stopP e a] ∧ w' = w := by
  go_enter Tryz.func52, Tryz.ntmps52
  go_wp2
  exact ⟨rfl, rfl, rfl⟩
theorem calls_stop {f : FuncId} {args : Array Value} {c : List PanicEntry} {w : World} {Q : Ending → World → Prop} (h : Calls Tryz.prog f args w (fun e w' => e = .panicked c ∧ w' = w)) (hq : Q (.panicked c) w) : Calls Tryz.prog f args w Q :=
  h.mono fun _ _ ⟨he, hw⟩ => by rw [he, hw]; exact hq
theorem may_yes (w : World) : Calls Tryz.prog 115 #[.bool true] w fun x w' => x = .returned (.tuple #[]) ∧ w' = w := by
  go_enter Tryz.func115, Tryz.ntmps115
  go_wp2_with (go_at_call 52; refine calls_same (want_yes _ _ _) ?_)
  exact bodyPost_end (results_none Tryz.results115 _ _ _) rfl ⟨rfl, rfl⟩
theorem may_no (w : World) : Calls Tryz.prog 115 #[.bool false] w fun x w' => x = .panicked [stopP 62 0] ∧ w' = w := by
  go_enter Tryz.func115, Tryz.ntmps115
  go_wp2_with (go_at_call 52; refine calls_stop (want_no _ _ _) ?_)
  exact ⟨rfl, rfl, rfl⟩
/-- one append of bytes in a plain region -/
theorem app_step {ops : Array Oper} {rest : List Oper} {o : Oper} {ac : Go.Act} {w : World} {Q : Exit → Go.Act → World → Prop} (hgd : o.guard = none) (sx xx : Operand)
    (ho : o.op = .call { callee := .builtin .append, args := #[sx, xx], argTypes := #[50, 50] }) {base K n cap c : Nat} {ta ra : Option Addr} {bs x : List Int} (hs : ac.eval sx = .slice ta K cap) (hxx : ac.eval xx = .slice ra n c)
    (hown : w.ownsRow base 5 1 (.slice ta K cap) K (bvs bs)) (hbs : base ≤ w.heap.size) (hx : BytesAt w ra x) (hn : x.length = n) (hK : K ≤ 1000000) (hn2 : n ≤ 1000000)
    (h : ∀ a' cap' w', w'.ownsRow base 5 1 (.slice a' (K + n) cap') (K + n) (bvs (bs ++ x)) → Fx (fun k => (Value.slice ta K cap).ownBlock = some k) w w' →
      ((Value.slice a' (K + n) cap').ownBlock = (Value.slice ta K cap).ownBlock ∨ ∃ g, (Value.slice a' (K + n) cap').ownBlock = some g ∧ w.heap.size ≤ g) → wpList Tryz.prog ops Q rest (ac.put o.dst (.slice a' (K + n) cap')) w') : wpList Tryz.prog ops Q (o :: rest) ac w :=
  wpList_plain hgd fun _ hK' => by
    obtain ⟨a', cap', w', hr, h2, h3, h4⟩ := app_run (c := c) o.type hown hbs hx hn hK hn2
    unfold Oper.wp execOp
    simp only [ho, resolve, invoke, builtin, Sem.run_bind, Sem.run_pure, Result.andThen_ok, List.map_toArray, List.map_cons, List.map_nil, hs, hxx, hr]
    exact hK' _ _ (h a' cap' w' h2 h3 h4)
set_option maxRecDepth 100000 in
theorem put_any {w : World} {p n c : Nat} {o : Option Nat} {F x : List Int} {ra : Option Addr} (h : WR w p o F) (hx : BytesAt w ra x) (hn : x.length = n) (hn2 : n ≤ 4096) :
    Calls Tryz.prog 81 #[.pointer (some ⟨p, 0, none⟩), .slice ra n c] w fun e w' => e = .returned (.tuple #[]) ∧ ∃ o', WR w' p o' (F ++ x) ∧ St p o w o' w' := by
  obtain ⟨ta, K, cap, bs, a1, a2, a3, a4, a5⟩ := h
  have hpl := a3.lt
  have c0 := a3.cell (i := 0) rfl
  by_cases hK : K ≤ 65536
  · have hd : decide ((K : Int) ≤ 65536) = true := by simp; omega
    have HA : Hid (Cut (F ++ x) (bs ++ x)) := hid_mk (a1.up (by omega) (by omega))
    have HX := hid_mk hx
    have HB := hid_mk a3
    have HO := hid_mk a4
    have hL : Hid (x.length = n) := hn
    have hL2 : Hid (bs.length = K) := a2
    have hb1 : Hid (K ≤ 1000000 ∧ n ≤ 1000000) := ⟨by omega, by omega⟩
    have hH := hid_mk hpl
    have H5 := hid_mk a5
    clear a1 a2 a3 a4 hx hn hn2 hK hpl a5
    go_enter Tryz.func81, Tryz.ntmps81
    go_wp2_with (at_builtin; refine app_step rfl _ _ rfl rfl rfl HO.out (by have := hH.out; omega) HX.out hL.out hb1.out.1 hb1.out.2 ?_)
    intro a' cap' w' q1 q2 q3
    have b1 := HB.out.fx q2 (fun q => by have := (own_ge HO.out q).1; omega)
    have c1 := b1.cell (i := 0) rfl
    have z1 := b1.frozen 0
    have H1 := hid_mk q1
    have H2 := hid_mk q2
    have H3 := hid_mk q3
    have HB1 := hid_mk b1
    clear q1 q2 q3 b1
    obtain ⟨M, hM⟩ : ∃ M, M = K + n := ⟨_, rfl⟩
    rw [← hM] at H1 H3 ⊢
    have HM := hid_mk hM
    clear hM
    go_wp2
    refine bodyPost_end (results_none Tryz.results81 _ _ _) rfl ⟨rfl, (Value.slice a' M cap').ownBlock, ⟨a', M, cap', bs ++ x, HA.out, ?_, HB1.out.set 0 _, ?_, rfl⟩, ?_, ?_⟩
    · rw [List.length_append, hL.out, hL2.out, HM.out]
    · refine own_fx (S := fun k => k = p) H1.out ((Fx.refl (fun k => k = p) _).set (p := ⟨p, 0, none⟩) (.inl rfl) _) ?_
      intro g hg e
      have := (own_ge H1.out hg).1
      omega
    · exact (H2.out.wide (fun k _ q => .inr (H5.out.symm.trans q))).set (.inl (.inl rfl)) _
    · rw [← H5.out]; exact H3.out
  · have hd : decide ((K : Int) ≤ 65536) = false := by simp; omega
    have HA : Hid (Cut (F ++ x) bs) := hid_mk (a1.full (by omega))
    have HB := hid_mk a3
    have HO := hid_mk a4
    have hL2 : Hid (bs.length = K) := a2
    have H5 := hid_mk a5
    clear a1 a2 a3 a4 hx hn hn2 hK hpl a5
    go_enter Tryz.func81, Tryz.ntmps81
    go_wp2
    exact bodyPost_end (results_none Tryz.results81 _ _ _) rfl ⟨rfl, o, ⟨ta, K, cap, bs, HA.out, hL2.out, HB.out, HO.out, H5.out⟩, St.refl _ _ _⟩
end Go.Proofs.YtcnjlbjpeklgkaaGreatDoor
namespace Go.Proofs.YtcnjlbjpeklgkaaGreatDoor
set_option linter.unusedVariables false
set_option linter.unusedSimpArgs false

/-- an instruction, a function, a program -/
abbrev InF := Int × Int
abbrev FnF := Int × Int × Int × List InF
abbrev PrF := Int × List (List Int) × List FnF

/-- the lines: l is the one that is being read -/
def lnsA : List Int → List Int → List (List Int)
  | l, [] => if l = [] then [] else [l]
  | l, c :: r => if c = 10 then l :: lnsA [] r else lnsA (l ++ [c]) r
def lnsF (t : List Int) : List (List Int) := lnsA [] t
def blB (c : Int) : Bool := c == 32 || c == 9
/-- where a reader of words stands: between words, in a plain word, in a quote (its sign), behind a `\` in it, behind a quote -/
inductive Sc where
  | gap
  | word (w : List Int)
  | quo (q : Int) (w : List Int)
  | esc (q : Int) (w : List Int)
  | shut (w : List Int)
def wsA : Sc → List Int → Option (List (List Int))
  | .gap, [] => some []
  | .gap, c :: r => if blB c then wsA .gap r else if c = 59 then some [] else if c = 34 ∨ c = 39 then wsA (.quo c [c]) r else wsA (.word [c]) r
  | .word w, [] => some [w]
  | .word w, c :: r => if blB c then (wsA .gap r).map (w :: ·) else if c = 59 then some [w] else wsA (.word (w ++ [c])) r
  | .quo _ _, [] => none
  | .quo q w, c :: r => if c = q then wsA (.shut (w ++ [c])) r else if c = 92 then wsA (.esc q (w ++ [c])) r else wsA (.quo q (w ++ [c])) r
  | .esc _ _, [] => none
  | .esc q w, c :: r => wsA (.quo q (w ++ [c])) r
  | .shut w, [] => some [w]
  | .shut w, c :: r => if blB c then (wsA .gap r).map (w :: ·) else if c = 59 then some [w] else none
def wsF (l : List Int) : Option (List (List Int)) := wsA .gap l

def dgB (c : Int) : Bool := decide (48 ≤ c ∧ c ≤ 57)
def decA : Int → List Int → Option Int
  | n, [] => some n
  | n, c :: r => if dgB c ∧ n * 10 + (c - 48) ≤ 9223372036854775807 then decA (n * 10 + (c - 48)) r else none
def decF (s : List Int) : Option Int := if s = [] ∨ (s.length > 1 ∧ s.head? = some 48) then none else decA 0 s
def hxF (c : Int) : Option Int := if dgB c then some (c - 48) else if 97 ≤ c ∧ c ≤ 102 then some (c - 87) else none
def ltB (c : Int) : Bool := decide ((65 ≤ c ∧ c ≤ 90) ∨ (97 ≤ c ∧ c ≤ 122) ∨ c = 95)
def nmB (s : List Int) : Bool := match s with
  | [] => false
  | c :: r => ltB c && r.all (fun d => ltB d || dgB d)
/-- the bytes that stand between two signs -/
def unqF : List Int → Option (List Int)
  | [] => some []
  | c :: r => if c ≠ 92 then (unqF r).map (c :: ·) else match r with
    | [] => none
    | d :: r =>
      if d = 92 ∨ d = 34 ∨ d = 39 then (unqF r).map (d :: ·)
      else if d = 110 then (unqF r).map (10 :: ·)
      else if d = 116 then (unqF r).map (9 :: ·)
      else if d = 120 then match r with
        | a :: b :: r => match hxF a, hxF b with
          | some x, some y => (unqF r).map ((16 * x + y) :: ·)
          | _, _ => none
        | _ => none
      else none
def quoF (s : List Int) (q : Int) : Option (List Int) := if 2 ≤ s.length ∧ s.head? = some q ∧ s.getLast? = some q then unqF (s.drop 1).dropLast else none
/-- the UTF-8 of a scalar -/
def utfF (c : Int) : List Int :=
  if c < 128 then [c]
  else if c < 2048 then [192 + c / 64, 128 + c % 64]
  else if c < 65536 then [224 + c / 4096, 128 + c / 64 % 64, 128 + c % 64]
  else [240 + c / 262144, 128 + c / 4096 % 64, 128 + c / 64 % 64, 128 + c % 64]
/-- what bytes would say -/
def sayF : List Int → Int
  | [a] => a
  | [a, b] => a % 32 * 64 + b % 64
  | [a, b, c] => (a % 16 * 64 + b % 64) * 64 + c % 64
  | [a, b, c, d] => ((a % 8 * 64 + b % 64) * 64 + c % 64) * 64 + d % 64
  | _ => 0
def scaF (b : List Int) : Option Int :=
  if b = [] ∨ 4 < b.length ∨ sayF b > 1114111 ∨ (55296 ≤ sayF b ∧ sayF b ≤ 57343) ∨ utfF (sayF b) ≠ b then none else some (sayF b)

def byS (s : String) : List Int := s.toUTF8.data.toList.map (fun c => (c.toNat : Int))
/-- the names of the instructions 1 .. 22, 30 .. 75; the immediates' words -/
def nm1 : List (List Int) := ["fix", "char", "imm", "text", "flo", "local", "setlocal", "captured", "global", "setglobal", "pop", "dup", "swap", "jump", "branch", "closure", "call", "tail", "return", "callcc", "halt", "error"].map byS
def nm2 : List (List Int) := ["cons", "car", "cdr", "setcar", "setcdr", "box", "unbox", "setbox", "vector", "vectorref", "vectorset", "vectorlen", "textlen", "textref", "texteq", "eq", "kind", "not", "add", "sub", "mul", "quot", "rem", "less", "floadd", "flosub", "flomul", "flodiv", "floless", "toflo", "tofix", "charfix", "fixchar", "weakcons", "weakcar", "weakcdr", "setweakcdr", "eph", "ephkey", "ephval", "table", "tableget", "tableput", "tabledel", "tablecount", "out"].map byS
def imW : List (List Int) := ["nil", "false", "true", "void", "broken", "unbound"].map byS
def nameF (op : Int) : List Int := if 1 ≤ op ∧ op ≤ 22 then nm1.getD (op - 1).toNat [] else if 30 ≤ op ∧ op ≤ 75 then nm2.getD (op - 30).toNat [] else []
def opF (s : List Int) : Int := match nm1.findIdx? (· == s) with
  | some i => 1 + i
  | none => match nm2.findIdx? (· == s) with
    | some i => 30 + i
    | none => 0

/-- the 16 digits of a flo: its bits -/
def fl16 : Int → List Int → Option Int
  | n, [] => some n
  | n, c :: r => match hxF c with
    | some d => fl16 (n * 16 + d) r
    | none => none
def sgn64 (n : Int) : Int := if n < 9223372036854775808 then n else n - 18446744073709551616
/-- an operand: a number (.inl), or a label's name (.inr) -/
def opnF (op : Int) (s : List Int) : Option (Int ⊕ List Int) :=
  if op = 1 then
    match (if 1 < s.length ∧ s.head? = some 45 then (decF (s.drop 1)).bind (fun n => if n = 0 then none else some (-n)) else decF s) with
    | some n => if -1152921504606846976 ≤ n ∧ n ≤ 1152921504606846975 then some (.inl n) else none
    | none => none
  else if op = 2 then
    match decF s with
    | some n => some (.inl n)
    | none => ((quoF s 39).bind scaF).map .inl
  else if op = 3 then
    match imW.findIdx? (· == s) with
    | some i => some (.inl i)
    | none => (decF s).map .inl
  else if op = 5 then
    if s.length = 18 ∧ s.take 2 = [48, 120] then (fl16 0 (s.drop 2)).map (fun n => .inl (sgn64 n)) else none
  else if op = 14 ∨ op = 15 then
    match decF s with
    | some n => some (.inl n)
    | none => if nmB s then some (.inr s) else none
  else (decF s).map .inl

/-- a program that is being read: what it is so far, whether a line with a word of the head was there, whether a function is open, its labels, their uses (instruction, line, name), the least line that is wrong (0: none) -/
structure MkF where
  gl : Int
  tx : List (List Int)
  fn : List FnF
  began : Bool
  inside : Bool
  lab : List (List Int × Int)
  use : List (Nat × Nat × List Int)
  bad : Nat
def MkF.zero : MkF := ⟨0, [], [], false, false, [], [], 0⟩
def MkF.wrong (m : MkF) (line : Nat) : MkF := if m.bad = 0 ∨ line < m.bad then { m with bad := line } else m
/-- the last function's instruction i leads to a -/
def setA (fs : List FnF) (i : Nat) (a : Int) : List FnF := match fs.getLast? with
  | some f => fs.dropLast ++ [(f.1, f.2.1, f.2.2.1, f.2.2.2.modify i (fun x => (x.1, a)))]
  | none => fs
def MkF.use1 (m : MkF) (u : Nat × Nat × List Int) : MkF := match m.lab.find? (fun l => l.1 == u.2.2) with
  | some l => { m with fn := setA m.fn u.1 l.2 }
  | none => m.wrong u.2.1
def MkF.ends (m : MkF) : MkF := { m.use.foldl MkF.use1 m with lab := [], use := [] }
def numsF (l : List (List Int)) (n : Nat) : Option (List Int) := if l.length = n then l.mapM decF else none
def addI (fs : List FnF) (x : InF) : List FnF := match fs.getLast? with
  | some f => fs.dropLast ++ [(f.1, f.2.1, f.2.2.1, f.2.2.2 ++ [x])]
  | none => fs
def lenI (fs : List FnF) : Nat := match fs.getLast? with
  | some f => f.2.2.2.length
  | none => 0
/-- a line globals, text, func; a label; an instruction (none: the line is none); pl: has an operation an operand? -/
def MkF.globals (m : MkF) (l : List (List Int)) : Option MkF := match numsF l 1 with
  | some [n] => if m.began then none else some { m with gl := n, began := true }
  | _ => none
def MkF.text (m : MkF) (l : List (List Int)) : Option MkF := match l with
  | [s] => if m.inside then none else (quoF s 34).map (fun b => { m with tx := m.tx ++ [b], began := true })
  | _ => none
def MkF.func (m : MkF) (l : List (List Int)) : Option MkF := match numsF l 3 with
  | some [a, b, c] => some { m.ends with fn := m.ends.fn ++ [(a, b, c, [])], began := true, inside := true }
  | _ => none
def MkF.mark (m : MkF) (s : List Int) : Option MkF :=
  if nmB s ∧ m.inside = true ∧ m.lab.find? (fun l => l.1 == s) = none then some { m with lab := m.lab ++ [(s, (lenI m.fn : Int))] } else none
def MkF.ins (pl : Int → Bool) (m : MkF) (line : Nat) (w : List Int) (l : List (List Int)) : Option MkF :=
  if opF w = 0 ∨ m.inside = false then none
  else if pl (opF w) then match l with
    | [s] => match opnF (opF w) s with
      | some (.inl a) => some { m with fn := addI m.fn (opF w, a) }
      | some (.inr nm) => some { m with fn := addI m.fn (opF w, 0), use := m.use ++ [(lenI m.fn, line, nm)] }
      | none => none
    | _ => none
  else if l = [] then some { m with fn := addI m.fn (opF w, 0) } else none
def MkF.words (pl : Int → Bool) (m : MkF) (line : Nat) (l : List (List Int)) : Option MkF := match l with
  | [] => some m
  | w :: l => if l = [] ∧ w.getLast? = some 58 then m.mark w.dropLast
    else if w = byS "globals" then m.globals l
    else if w = byS "text" ∧ m.inside = false then m.text l
    else if w = byS "func" then m.func l
    else m.ins pl line w l
def MkF.line (pl : Int → Bool) (m : MkF) (line : Nat) (s : List Int) : MkF := match (wsF s).bind (m.words pl line) with
  | some m' => m'
  | none => m.wrong line
/-- lines from number i on -/
def MkF.run (pl : Int → Bool) (m : MkF) : Nat → List (List Int) → MkF
  | _, [] => m
  | i, s :: r => (m.line pl i s).run pl (i + 1) r
def MkF.prog (m : MkF) : PrF := (m.gl, m.tx, m.fn)
/-- a text assembled: the program, a line, an error (wr: what writing it says) -/
def asmF (pl : Int → Bool) (wr : PrF → Int) (t : List Int) : PrF × Nat × Int :=
  if t.length > 1048576 ∨ (lnsF t).length > 100000 then ((0, [], []), 0, 2)
  else if ((MkF.zero.run pl 1 (lnsF t)).ends).bad > 0 then ((0, [], []), ((MkF.zero.run pl 1 (lnsF t)).ends).bad, 90)
  else if wr (MkF.zero.run pl 1 (lnsF t)).ends.prog ≠ 0 then ((0, [], []), 0, wr (MkF.zero.run pl 1 (lnsF t)).ends.prog)
  else ((MkF.zero.run pl 1 (lnsF t)).ends.prog, 0, 0)

/-- a number in decimals, as a row of digits -/
def dcF (n : Nat) : List Int := if n < 10 then [48 + (n : Int)] else dcF (n / 10) ++ [48 + ((n % 10 : Nat) : Int)]
termination_by n
decreasing_by omega
def hx1 (n : Int) : Int := if n < 10 then 48 + n else 87 + n
/-- a byte of a text, spelt -/
def spB (c : Int) : List Int :=
  if c = 34 ∨ c = 92 then [92, c] else if c = 10 then [92, 110] else if c = 9 then [92, 116]
  else if 32 ≤ c ∧ c ≤ 126 then [c] else [92, 120, hx1 (c / 16), hx1 (c % 16)]
def spF (b : List Int) : List Int := b.flatMap spB
/-- the bits of a flo -/
def flF (a : Int) : List Int := [48, 120] ++ (List.range 16).map (fun k => hx1 ((a % 18446744073709551616) / 16 ^ (15 - k) % 16))
/-- an operand, in a function of n instructions -/
def toldF (x : InF) (n : Nat) : List Int :=
  if x.1 = 1 ∧ x.2 < 0 then 45 :: dcF (-x.2).toNat
  else if x.1 = 5 then flF x.2
  else if x.1 = 2 ∧ (x.2 = 39 ∨ x.2 = 92) then [39, 92, x.2, 39]
  else if x.1 = 2 ∧ 32 ≤ x.2 ∧ x.2 ≤ 126 then [39, x.2, 39]
  else if x.1 = 3 ∧ x.2 ≤ 5 then imW.getD x.2.toNat []
  else if (x.1 = 14 ∨ x.1 = 15) ∧ x.2 < n then 76 :: dcF x.2.toNat
  else dcF x.2.toNat
def goesB (c : List InF) (j : Nat) : Bool := c.any (fun x => (x.1 == 14 || x.1 == 15) && x.2 == (j : Int))
/-- the lines of an instruction, of a function, of a program -/
def insL (pl : Int → Bool) (c : List InF) (j : Nat) (x : InF) : List (List Int) :=
  (if goesB c j then [76 :: dcF j ++ [58]] else []) ++ [9 :: nameF x.1 ++ (if pl x.1 then 32 :: toldF x c.length else [])]
def codL (pl : Int → Bool) (c : List InF) : Nat → List InF → List (List Int)
  | _, [] => []
  | j, x :: r => insL pl c j x ++ codL pl c (j + 1) r
def fnL (pl : Int → Bool) (f : FnF) : List (List Int) :=
  (byS "func " ++ dcF f.1.toNat ++ [32] ++ dcF f.2.1.toNat ++ [32] ++ dcF f.2.2.1.toNat) :: codL pl f.2.2.2 0 f.2.2.2
def prL (pl : Int → Bool) (p : PrF) : List (List Int) :=
  (if p.1 > 0 then [byS "globals " ++ dcF p.1.toNat] else []) ++ p.2.1.map (fun b => byS "text \"" ++ spF b ++ [34]) ++ p.2.2.flatMap (fnL pl)
def prtF (pl : Int → Bool) (p : PrF) : List Int := (prL pl p).flatMap (fun l => l ++ [10])

end Go.Proofs.YtcnjlbjpeklgkaaGreatDoor
