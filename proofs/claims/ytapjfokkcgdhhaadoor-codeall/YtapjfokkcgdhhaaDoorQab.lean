import Derived.Test.YtapjfokkcgdhhaaDoorQaa
import Derived.Laws.ResultCell
import Derived.Laws.Rows
import Derived.Deep.AppendLies
import Derived.Deep.Upon
import Derived.Laws.BytesArg
import Derived.Defers
import Derived.Recover
import Derived.WalkSmall
namespace Go.Proofs.YtapjfokkcgdhhaaDoor
open Go.RowKit
set_option linter.unusedVariables false
set_option linter.unusedSimpArgs false

/-- block p holds these cells -/
def Bl (W : World) (p : Nat) (cs : Array Value) (T : TypeId) : Prop := W.heap[p]? = some (.cells cs T (0, 0))
section
variable {W W' : World} {p lo hi : Nat} {cs : Array Value} {T : TypeId}
theorem Bl.cell (h : Bl W p cs T) {i : Nat} {v : Value} (hi : cs[i]? = some v) : W.cell? ⟨p, i, none⟩ = some v := by
  unfold Bl at h; simp [World.cell?, h, hi]
theorem Bl.frozen (h : Bl W p cs T) (i : Nat) : W.frozen? ⟨p, i, none⟩ = false := by
  unfold Bl at h; simp [World.frozen?, h]
theorem Bl.lt (h : Bl W p cs T) : p < W.heap.size := heap_lt h
theorem Bl.kept (h : Bl W p cs T) (g : Out lo hi W W') (h2 : p < lo ∨ hi ≤ p) : Bl W' p cs T := g.heap h h2
theorem Bl.alloc (h : Bl W p cs T) (o : Obj) : Bl (W.alloc o) p cs T := by
  have hl := h.lt
  unfold Bl at *; rw [heap_alloc_old _ _ hl]; exact h
theorem Bl.new (W : World) (cs : Array Value) (T : TypeId) : Bl (W.alloc (.cells cs T)) W.heap.size cs T := heap_alloc_new _ _
theorem Bl.set (h : Bl W p cs T) (i : Nat) (v : Value) : Bl (W.setCell ⟨p, i, none⟩ v) p (cs.setIfInBounds i v) T := by
  unfold Bl at *
  simp only [World.setCell, Array.getElem?_modify, if_true, h]
  rfl
theorem Bl.other (h : Bl W p cs T) {q : Addr} (hq : q.block ≠ p) (v : Value) : Bl (W.setCell q v) p cs T := by
  unfold Bl at *
  rw [← h]
  simp [World.setCell, Array.getElem?_modify, hq]
end
theorem size_alloc (W : World) (o : Obj) : (W.alloc o).heap.size = W.heap.size + 1 := by show (W.heap.push o).size = _; simp
theorem size_set (W : World) (a : Addr) (v : Value) : (W.setCell a v).heap.size = W.heap.size := by simp [World.setCell]

/-- the world but for the blocks of S -/
def Fx (S : Nat → Prop) (w w' : World) : Prop := w'.os = w.os ∧ w'.tape = w.tape ∧ w'.output = w.output ∧ w.heap.size ≤ w'.heap.size ∧ ∀ k, k < w.heap.size → ¬ S k → w'.heap[k]? = w.heap[k]?
theorem Fx.refl (S : Nat → Prop) (w : World) : Fx S w w := ⟨rfl, rfl, rfl, Nat.le_refl _, fun _ _ _ => rfl⟩
theorem Fx.size {S : Nat → Prop} {w w' : World} (h : Fx S w w') : w.heap.size ≤ w'.heap.size := h.2.2.2.1
theorem Fx.trans {S : Nat → Prop} {a b c : World} (h : Fx S a b) (g : Fx S b c) : Fx S a c :=
  ⟨g.1.trans h.1, g.2.1.trans h.2.1, g.2.2.1.trans h.2.2.1, Nat.le_trans h.size g.size, fun k h1 h2 => (g.2.2.2.2 k (Nat.lt_of_lt_of_le h1 h.size) h2).trans (h.2.2.2.2 k h1 h2)⟩
/-- what is new in the first step may change in the second -/
theorem Fx.then {S S' : Nat → Prop} {a b c : World} (h : Fx S a b) (g : Fx S' b c) (hS : ∀ k, k < a.heap.size → S' k → S k) : Fx S a c :=
  ⟨g.1.trans h.1, g.2.1.trans h.2.1, g.2.2.1.trans h.2.2.1, Nat.le_trans h.size g.size, fun k h1 h2 => (g.2.2.2.2 k (Nat.lt_of_lt_of_le h1 h.size) (fun q => h2 (hS k h1 q))).trans (h.2.2.2.2 k h1 h2)⟩
theorem Fx.of_out {S : Nat → Prop} {w w' : World} (h : Out 0 0 w w') : Fx S w w' := ⟨h.1, h.2.1, h.2.2.1, h.size, fun k h1 _ => h.block h1 (.inr (Nat.zero_le _))⟩
theorem Fx.out {S : Nat → Prop} {w w' : World} (h : Fx S w w') (hS : ∀ k, k < w.heap.size → ¬ S k) : Out 0 0 w w' := ⟨h.1, h.2.1, h.2.2.1, h.size, fun k h1 _ => h.2.2.2.2 k h1 (hS k h1)⟩
theorem Fx.wide {S S' : Nat → Prop} {w w' : World} (h : Fx S w w') (hS : ∀ k, k < w.heap.size → S k → S' k) : Fx S' w w' :=
  ⟨h.1, h.2.1, h.2.2.1, h.size, fun k h1 h2 => h.2.2.2.2 k h1 (fun q => h2 (hS k h1 q))⟩
theorem Fx.heap {S : Nat → Prop} {w w' : World} (h : Fx S w w') {b : Nat} {o : Obj} (hc : w.heap[b]? = some o) (h2 : ¬ S b) : w'.heap[b]? = some o := by
  rw [h.2.2.2.2 b (heap_lt hc) h2]; exact hc
theorem Bl.fx {S : Nat → Prop} {w w' : World} {g : Nat} {cs : Array Value} {T : TypeId} (h : Bl w g cs T) (f : Fx S w w') (h2 : ¬ S g) : Bl w' g cs T := f.heap h h2
theorem Fx.cell {S : Nat → Prop} {w w' : World} (h : Fx S w w') {b o : Nat} {v : Value} (hc : w.cell? ⟨b, o, none⟩ = some v) (h2 : ¬ S b) : w'.cell? ⟨b, o, none⟩ = some v := by
  rw [World.cell?_of_block (w := w) (a := ⟨b, o, none⟩) (h.2.2.2.2 b (cell_lt hc) h2)]
  exact hc
theorem Fx.alloc {S : Nat → Prop} {a w : World} (h : Fx S a w) (o : Obj) : Fx S a (w.alloc o) := h.trans (Fx.of_out ((Out.refl 0 0 w).alloc o))
theorem Fx.set {S : Nat → Prop} {a w : World} (h : Fx S a w) {p : Addr} (hp : S p.block ∨ a.heap.size ≤ p.block) (u : Value) : Fx S a (w.setCell p u) := by
  refine ⟨h.1, h.2.1, h.2.2.1, by have := h.size; simpa [World.setCell] using this, fun k h1 h2 => ?_⟩
  rw [Below.heap_setCell _ _ _ _ (by rintro rfl; rcases hp with hp | hp; exact h2 hp; omega)]
  exact h.2.2.2.2 k h1 h2
theorem Fx.drew {S : Nat → Prop} {a w : World} (h : Fx S a w) : Fx S a w.drew := ⟨h.1, h.2.1, h.2.2.1, h.size, h.2.2.2.2⟩

/-- bytes that lie somewhere -/
def BytesAt (w : World) (a : Option Addr) (t : List Int) : Prop := Byt t ∧ (t = [] ∨ ∃ g off, a = some ⟨g, off, none⟩ ∧ ∀ (j : Nat) b, t[j]? = some b → w.cell? ⟨g, off + j, none⟩ = some (.int .u8 b))
def bvs (t : List Int) : List Value := t.map fun x => .int .u8 x
theorem bvs_len (t : List Int) : (bvs t).length = t.length := by unfold bvs; simp
theorem bvs_app (s t : List Int) : bvs (s ++ t) = bvs s ++ bvs t := by unfold bvs; simp
theorem info_u8 : (Tryd.prog.info? 5).map (fun i => (i.zero, i.size, i.bytes)) = some (some (.int .u8 0), 1, 1) := by kernel_rfl
theorem info_p {E : TypeId} {z : Value} {sz by_ : Nat} (h : (Tryd.prog.info? E).map (fun i => (i.zero, i.size, i.bytes)) = some (some z, sz, by_)) : ∃ i0, Tryd.prog.info? E = some i0 ∧ i0.zero = some z ∧ i0.size = sz ∧ i0.bytes = by_ := by
  obtain ⟨i0, h0, h1⟩ := Option.map_eq_some_iff.1 h
  simp only [Prod.mk.injEq] at h1
  exact ⟨i0, h0, h1.1, h1.2.1, h1.2.2⟩
theorem run_none (w : World) (ty : TypeId) (ta p : Option Addr) (K cap c : Nat) (hle : K ≤ cap) : (Builtin.append_ #[22, 22] ty #[.slice ta K cap, .slice p 0 c]).run Tryd.prog w = .ok (.slice ta K cap) w := by
  obtain ⟨i0, hi, hz0, hz1, hz2⟩ := info_p info_u8
  cases p <;> cases ta <;> simp [Builtin.append_, run_underlying Tryd.underlying22, sizeOf, typeInfo, hi, Builtin.lenOf, Builtin.firstCells, loadCells, loadCellsFrom, storeCells, hle]
/-- bytes behind those that a writer has -/
theorem app_run {w : World} {base K n cap c : Nat} {ta ra : Option Addr} {bs x : List Int} (ty : TypeId) (hown : w.ownsRow base 5 1 (.slice ta K cap) K (bvs bs)) (hbs : base ≤ w.heap.size) (hx : BytesAt w ra x) (hn : x.length = n) (hK : K ≤ 1000000) (hn2 : n ≤ 1000000) :
    ∃ a' cap' w', (Builtin.append_ #[22, 22] ty #[.slice ta K cap, .slice ra n c]).run Tryd.prog w = .ok (.slice a' (K + n) cap') w' ∧ w'.ownsRow base 5 1 (.slice a' (K + n) cap') (K + n) (bvs (bs ++ x)) ∧ Fx (fun k => (Value.slice ta K cap).ownBlock = some k) w w' ∧
      ((Value.slice a' (K + n) cap').ownBlock = (Value.slice ta K cap).ownBlock ∨ ∃ g, (Value.slice a' (K + n) cap').ownBlock = some g ∧ w.heap.size ≤ g) := by
  rcases hx.2 with rfl | ⟨g, off, rfl, hc⟩
  · have : n = 0 := hn.symm
    subst this
    refine ⟨ta, cap, w, run_none w ty ta ra K cap c ?_, by rw [List.append_nil]; exact hown, Fx.refl _ _, .inl rfl⟩
    rcases hown.2 with ⟨h1, h2⟩ | ⟨g, c2, cur, h1, _, _, h4, _⟩
    · omega
    · cases h1; exact h4
  · by_cases h0 : n = 0
    · subst h0
      have : x = [] := List.eq_nil_of_length_eq_zero hn
      subst this
      refine ⟨ta, cap, w, run_none w ty ta _ K cap c ?_, by rw [List.append_nil]; exact hown, Fx.refl _ _, .inl rfl⟩
      rcases hown.2 with ⟨h1, h2⟩ | ⟨g, c2, cur, h1, _, _, h4, _⟩
      · omega
      · cases h1; exact h4
    · obtain ⟨i0, hi0, hz0, hz1, hz2⟩ := info_p info_u8
      obtain ⟨g4, cap', w', hrun, hown', hgrow, hat, _⟩ := run_append_lies (P := Tryd.prog) w 22 ty base 5 i0 (.int .u8 0) 1 1 Tryd.underlying22 hi0 hz0 hz1 hz2 rfl (by decide) (.slice ta K cap) K (bvs bs) hown ⟨g, off, none⟩ n c (bvs x) (by rw [bvs_len, hn, Nat.mul_one]) (by
          intro j u hj
          unfold bvs at hj
          rw [List.getElem?_map] at hj
          obtain ⟨y, hy1, rfl⟩ := Option.map_eq_some_iff.1 hj
          rw [Addr.add_lit]
          exact hc j y hy1) (by intro u hu; unfold bvs at hu; obtain ⟨y, _, rfl⟩ := List.mem_map.1 hu; rfl) (by omega) (by unfold maxLen; omega) (by omega) hbs w.heap.size rfl
      refine ⟨some ⟨g4, 0, none⟩, cap', w', hrun, by rw [bvs_app]; exact hown', ⟨hgrow.os, hgrow.tape, hgrow.output, hgrow.size, fun k h1 h2 => hgrow.block k h1 (fun e => h2 e.symm)⟩, ?_⟩
      rcases hat with h | h
      · exact .inl h.symm
      · exact .inr ⟨g4, rfl, Nat.le_of_eq h.symm⟩

/-- what a writer keeps of the bytes: all, as long as they are not too many -/
def Cut (F bs : List Int) : Prop := bs.length ≤ 70000 ∧ ((F.length ≤ 65536 ∧ bs = F) ∨ (65536 < F.length ∧ 65536 < bs.length))
theorem Cut.up {F bs x : List Int} (h : Cut F bs) (hb : bs.length ≤ 65536) (hx : x.length ≤ 4096) : Cut (F ++ x) (bs ++ x) := by
  obtain ⟨h1, h2 | h2⟩ := h
  · obtain ⟨h3, rfl⟩ := h2
    refine ⟨by rw [List.length_append]; omega, ?_⟩
    by_cases h4 : (bs ++ x).length ≤ 65536
    · exact .inl ⟨h4, rfl⟩
    · exact .inr ⟨by omega, by omega⟩
  · omega
theorem Cut.full {F bs x : List Int} (h : Cut F bs) (hb : 65536 < bs.length) : Cut (F ++ x) bs := by
  obtain ⟨h1, h2 | h2⟩ := h
  · obtain ⟨h3, rfl⟩ := h2; omega
  · exact ⟨h1, .inr ⟨by rw [List.length_append]; omega, h2.2⟩⟩
/-- the writer at p holds the bytes; o: their block -/
def WR (w : World) (p : Nat) (o : Option Nat) (F : List Int) : Prop := ∃ (ta : Option Addr) (K cap : Nat) (bs : List Int), Cut F bs ∧ bs.length = K ∧ Bl w p #[.slice ta K cap] 65 ∧ w.ownsRow (p + 1) 5 1 (.slice ta K cap) K (bvs bs) ∧ (Value.slice ta K cap).ownBlock = o
/-- what a step of the writer at p leaves -/
def St (p : Nat) (o : Option Nat) (w : World) (o' : Option Nat) (w' : World) : Prop := Fx (fun k => k = p ∨ o = some k) w w' ∧ (o' = o ∨ ∃ g, o' = some g ∧ w.heap.size ≤ g)
theorem St.refl (p : Nat) (o : Option Nat) (w : World) : St p o w o w := ⟨Fx.refl _ _, .inl rfl⟩
theorem St.trans {p : Nat} {o o1 o2 : Option Nat} {w w1 w2 : World} (h : St p o w o1 w1) (g : St p o1 w1 o2 w2) : St p o w o2 w2 := by
  obtain ⟨h1, h2⟩ := h
  obtain ⟨g1, g2⟩ := g
  refine ⟨h1.then g1 fun k hk hq => ?_, ?_⟩
  · rcases hq with hq | hq
    · exact .inl hq
    · rcases h2 with rfl | ⟨x, rfl, hx⟩
      · exact .inr hq
      · cases hq; omega
  · rcases g2 with rfl | ⟨x, rfl, hx⟩
    · rcases h2 with rfl | ⟨x, rfl, hx⟩
      · exact .inl rfl
      · exact .inr ⟨x, rfl, hx⟩
    · exact .inr ⟨x, rfl, Nat.le_trans h1.size hx⟩
theorem St.alloc {p : Nat} {o o' : Option Nat} {w w' : World} (h : St p o w o' w') (x : Obj) : St p o w o' (w'.alloc x) := ⟨h.1.alloc x, h.2⟩
theorem St.quiet {p : Nat} {o o' : Option Nat} {w w' w2 : World} (h : St p o w o' w') (x : Out 0 0 w' w2) : St p o w o' w2 := ⟨h.1.trans (Fx.of_out x), h.2⟩
theorem St.size {p : Nat} {o o' : Option Nat} {w w' : World} (h : St p o w o' w') : w.heap.size ≤ w'.heap.size := h.1.size
theorem St.bl {p g : Nat} {o o' : Option Nat} {w w' : World} {cs : Array Value} {T : TypeId} (h : St p o w o' w') (b : Bl w g cs T) (h1 : g ≠ p) (h2 : o ≠ some g) : Bl w' g cs T := b.fx h.1 (by rintro (q | q); exact h1 q; exact h2 q)
/-- a block that the writer has not -/
theorem St.off {p g : Nat} {o o' : Option Nat} {w w' : World} (h : St p o w o' w') (hg : g < w.heap.size) (h2 : o ≠ some g) : o' ≠ some g := by
  rcases h.2 with e | ⟨x, e, hx⟩
  · rw [e]; exact h2
  · rw [e]; intro q; cases q; omega
theorem own_fx {S : Nat → Prop} {w w' : World} {v : Value} {base k sz : Nat} {xs : List Value} {T : TypeId} (h : w.ownsRow base T sz v k xs) (x : Fx S w w') (h2 : ∀ g, v.ownBlock = some g → ¬ S g) : w'.ownsRow base T sz v k xs := by
  obtain ⟨hlen, hcase⟩ := h
  refine ⟨hlen, ?_⟩
  rcases hcase with ⟨hv, h0⟩ | ⟨g, cap', cur, rfl, hg1, hg2, hg3⟩
  · exact .inl ⟨hv, h0⟩
  · exact .inr ⟨g, cap', cur, rfl, hg1, x.heap hg2 (h2 g rfl), hg3⟩
theorem own_ge {w : World} {v : Value} {base k sz : Nat} {xs : List Value} {T : TypeId} (h : w.ownsRow base T sz v k xs) {g : Nat} (e : v.ownBlock = some g) : base ≤ g ∧ g < w.heap.size := by
  rcases h.2 with ⟨rfl, _⟩ | ⟨g1, cap', cur, rfl, hg1, hg2, hg3⟩
  · cases e
  · have : g1 = g := Option.some.inj e
    subst this
    exact ⟨hg1, heap_lt hg2⟩
theorem WR.fx {S : Nat → Prop} {w w' : World} {p : Nat} {o : Option Nat} {F : List Int} (h : WR w p o F) (x : Fx S w w') (h1 : ¬ S p) (h2 : ∀ g, o = some g → ¬ S g) : WR w' p o F := by
  obtain ⟨ta, K, cap, bs, a1, a2, a3, a4, a5⟩ := h
  exact ⟨ta, K, cap, bs, a1, a2, a3.fx x h1, own_fx a4 x (fun g hg => h2 g (a5.symm.trans hg)), a5⟩
theorem WR.quiet {w w' : World} {p : Nat} {o : Option Nat} {F : List Int} (h : WR w p o F) (x : Out 0 0 w w') : WR w' p o F := h.fx (S := fun _ => False) (Fx.of_out x) (fun q => q) (fun _ _ q => q)
theorem WR.alloc {w : World} {p : Nat} {o : Option Nat} {F : List Int} (h : WR w p o F) (x : Obj) : WR (w.alloc x) p o F := h.quiet ((Out.refl 0 0 w).alloc x)
theorem WR.lt {w : World} {p : Nat} {o : Option Nat} {F : List Int} (h : WR w p o F) : p < w.heap.size := by
  obtain ⟨ta, K, cap, bs, a1, a2, a3, a4, a5⟩ := h
  exact a3.lt
theorem WR.off {w : World} {p g : Nat} {o : Option Nat} {F : List Int} (h : WR w p o F) (hg : w.heap.size ≤ g) : o ≠ some g := by
  obtain ⟨ta, K, cap, bs, a1, a2, a3, a4, a5⟩ := h
  intro q
  have := (own_ge a4 (a5.trans q)).2
  omega
end Go.Proofs.YtapjfokkcgdhhaaDoor
namespace Go.Proofs.YtapjfokkcgdhhaaDoor
open Go.RowKit
set_option linter.unusedVariables false
set_option linter.unusedSimpArgs false

/-- what a panic carries: an error and its place -/
def stopP (e a : Int) : PanicEntry := { v := .iface 85 (.agg #[.int .i64 e, .int .i64 a]), recovered := false }
theorem want_yes (e a : Int) (w : World) : Calls Tryd.prog 26 #[.bool true, .int .i64 e, .int .i64 a] w fun x w' => x = .returned (.tuple #[]) ∧ w' = w := by
  go_enter Tryd.func26, Tryd.ntmps26
  go_wp2
  exact bodyPost_end (results_none Tryd.results26 _ _ _) rfl ⟨rfl, rfl⟩
theorem want_no (e a : Int) (w : World) : Calls Tryd.prog 26 #[.bool false, .int .i64 e, .int .i64 a] w fun x w' => x = .panicked [stopP e a] ∧ w' = w := by
  go_enter Tryd.func26, Tryd.ntmps26
  go_wp2
  exact ⟨rfl, rfl, rfl⟩
theorem calls_stop {f : FuncId} {args : Array Value} {c : List PanicEntry} {w : World} {Q : Ending → World → Prop} (h : Calls Tryd.prog f args w (fun e w' => e = .panicked c ∧ w' = w)) (hq : Q (.panicked c) w) : Calls Tryd.prog f args w Q :=
  h.mono fun _ _ ⟨he, hw⟩ => by rw [he, hw]; exact hq
theorem may_yes (w : World) : Calls Tryd.prog 50 #[.bool true] w fun x w' => x = .returned (.tuple #[]) ∧ w' = w := by
  go_enter Tryd.func50, Tryd.ntmps50
  go_wp2_with (go_at_call 26; refine calls_same (want_yes _ _ _) ?_)
  exact bodyPost_end (results_none Tryd.results50 _ _ _) rfl ⟨rfl, rfl⟩
theorem may_no (w : World) : Calls Tryd.prog 50 #[.bool false] w fun x w' => x = .panicked [stopP 62 0] ∧ w' = w := by
  go_enter Tryd.func50, Tryd.ntmps50
  go_wp2_with (go_at_call 26; refine calls_stop (want_no _ _ _) ?_)
  exact ⟨rfl, rfl, rfl⟩
/-- one append of bytes in a plain region -/
theorem app_step {ops : Array Oper} {rest : List Oper} {o : Oper} {ac : Go.Act} {w : World} {Q : Exit → Go.Act → World → Prop} (hgd : o.guard = none) (sx xx : Operand)
    (ho : o.op = .call { callee := .builtin .append, args := #[sx, xx], argTypes := #[22, 22] }) {base K n cap c : Nat} {ta ra : Option Addr} {bs x : List Int} (hs : ac.eval sx = .slice ta K cap) (hxx : ac.eval xx = .slice ra n c)
    (hown : w.ownsRow base 5 1 (.slice ta K cap) K (bvs bs)) (hbs : base ≤ w.heap.size) (hx : BytesAt w ra x) (hn : x.length = n) (hK : K ≤ 1000000) (hn2 : n ≤ 1000000)
    (h : ∀ a' cap' w', w'.ownsRow base 5 1 (.slice a' (K + n) cap') (K + n) (bvs (bs ++ x)) → Fx (fun k => (Value.slice ta K cap).ownBlock = some k) w w' →
      ((Value.slice a' (K + n) cap').ownBlock = (Value.slice ta K cap).ownBlock ∨ ∃ g, (Value.slice a' (K + n) cap').ownBlock = some g ∧ w.heap.size ≤ g) → wpList Tryd.prog ops Q rest (ac.put o.dst (.slice a' (K + n) cap')) w') : wpList Tryd.prog ops Q (o :: rest) ac w :=
  wpList_plain hgd fun _ hK' => by
    obtain ⟨a', cap', w', hr, h2, h3, h4⟩ := app_run (c := c) o.type hown hbs hx hn hK hn2
    unfold Oper.wp execOp
    simp only [ho, resolve, invoke, builtin, Sem.run_bind, Sem.run_pure, Result.andThen_ok, List.map_toArray, List.map_cons, List.map_nil, hs, hxx, hr]
    exact hK' _ _ (h a' cap' w' h2 h3 h4)
set_option maxRecDepth 100000 in
theorem put_any {w : World} {p n c : Nat} {o : Option Nat} {F x : List Int} {ra : Option Addr} (h : WR w p o F) (hx : BytesAt w ra x) (hn : x.length = n) (hn2 : n ≤ 4096) :
    Calls Tryd.prog 39 #[.pointer (some ⟨p, 0, none⟩), .slice ra n c] w fun e w' => e = .returned (.tuple #[]) ∧ ∃ o', WR w' p o' (F ++ x) ∧ St p o w o' w' := by
  obtain ⟨ta, K, cap, bs, a1, a2, a3, a4, a5⟩ := h
  have hpl := a3.lt
  have c0 := a3.cell (i := 0) rfl
  by_cases hK : K ≤ 65536
  · have hd : decide ((K : Int) ≤ 65536) = true := by simp; omega
    have HA : Hid (Cut (F ++ x) (bs ++ x)) := hid_mk (a1.up (by omega) (by omega))
    have HX := hid_mk hx
    have HB := hid_mk a3
    have HO := hid_mk a4
    have hL : Hid (x.length = n) := hn
    have hL2 : Hid (bs.length = K) := a2
    have hb1 : Hid (K ≤ 1000000 ∧ n ≤ 1000000) := ⟨by omega, by omega⟩
    have hH := hid_mk hpl
    have H5 := hid_mk a5
    clear a1 a2 a3 a4 hx hn hn2 hK hpl a5
    go_enter Tryd.func39, Tryd.ntmps39
    go_wp2_with (at_builtin; refine app_step rfl _ _ rfl rfl rfl HO.out (by have := hH.out; omega) HX.out hL.out hb1.out.1 hb1.out.2 ?_)
    intro a' cap' w' q1 q2 q3
    have b1 := HB.out.fx q2 (fun q => by have := (own_ge HO.out q).1; omega)
    have c1 := b1.cell (i := 0) rfl
    have z1 := b1.frozen 0
    have H1 := hid_mk q1
    have H2 := hid_mk q2
    have H3 := hid_mk q3
    have HB1 := hid_mk b1
    clear q1 q2 q3 b1
    obtain ⟨M, hM⟩ : ∃ M, M = K + n := ⟨_, rfl⟩
    rw [← hM] at H1 H3 ⊢
    have HM := hid_mk hM
    clear hM
    go_wp2
    refine bodyPost_end (results_none Tryd.results39 _ _ _) rfl ⟨rfl, (Value.slice a' M cap').ownBlock, ⟨a', M, cap', bs ++ x, HA.out, ?_, HB1.out.set 0 _, ?_, rfl⟩, ?_, ?_⟩
    · rw [List.length_append, hL.out, hL2.out, HM.out]
    · refine own_fx (S := fun k => k = p) H1.out ((Fx.refl (fun k => k = p) _).set (p := ⟨p, 0, none⟩) (.inl rfl) _) ?_
      intro g hg e
      have := (own_ge H1.out hg).1
      omega
    · exact (H2.out.wide (fun k _ q => .inr (H5.out.symm.trans q))).set (.inl (.inl rfl)) _
    · rw [← H5.out]; exact H3.out
  · have hd : decide ((K : Int) ≤ 65536) = false := by simp; omega
    have HA : Hid (Cut (F ++ x) bs) := hid_mk (a1.full (by omega))
    have HB := hid_mk a3
    have HO := hid_mk a4
    have hL2 : Hid (bs.length = K) := a2
    have H5 := hid_mk a5
    clear a1 a2 a3 a4 hx hn hn2 hK hpl a5
    go_enter Tryd.func39, Tryd.ntmps39
    go_wp2
    exact bodyPost_end (results_none Tryd.results39 _ _ _) rfl ⟨rfl, o, ⟨ta, K, cap, bs, HA.out, hL2.out, HB.out, HO.out, H5.out⟩, St.refl _ _ _⟩
end Go.Proofs.YtapjfokkcgdhhaaDoor
namespace Go.Proofs.YtapjfokkcgdhhaaDoor
open Go.RowKit
set_option linter.unusedVariables false
set_option linter.unusedSimpArgs false

theorem one_byte (w : World) {b : Int} (h0 : 0 ≤ b) (h1 : b ≤ 255) : BytesAt (w.alloc (.cells #[.int .u8 b] 5)) (some ⟨w.heap.size, 0, none⟩) [b] :=
  ⟨Byt.cons h0 h1 Byt.nil, .inr ⟨w.heap.size, 0, rfl, fun j c hj => by
    match j, hj with
    | 0, hj => cases hj; exact (Bl.new w #[.int .u8 b] 5).cell (i := 0) rfl
    | j + 1, hj => simp at hj⟩⟩
/-- one byte is put down -/
theorem put_one {w : World} {p H : Nat} {o : Option Nat} {F : List Int} {b c : Int} (h : WR w p o F) (h0 : 0 ≤ b) (h1 : b ≤ 255) (hbc : c = b) (hH : w.heap.size = H) :
    Calls Tryd.prog 39 #[.pointer (some ⟨p, 0, none⟩), .slice (some ⟨H, 0, none⟩) 1 1] (w.alloc (.cells #[.int .u8 c] 5)) fun e w' => e = .returned (.tuple #[]) ∧ ∃ o', WR w' p o' (F ++ [b]) ∧ St p o w o' w' := by
  subst hbc hH
  exact (put_any (n := 1) (h.alloc _) (one_byte w h0 h1) rfl (by omega)).mono fun e w' ⟨he, o', h2, h3⟩ => ⟨he, o', h2, ((St.refl p o w).alloc _).trans h3⟩
theorem num_q {m n : Nat} (h : (n : Int) ≤ 9223372036854775807) (hm : m ≤ n) : wrap64 ((m : Int) / 128) = (m : Int) / 128 := by unfold wrap64; omega
theorem num_v {m n : Nat} (h : (n : Int) ≤ 9223372036854775807) (hm : m ≤ n) : Value.int .i64 (wrap64 ((m : Int) / 128)) = .int .i64 ((m / 128 : Nat) : Int) := by rw [num_q h hm]; simp
theorem num_m {m n : Nat} (h : (n : Int) ≤ 9223372036854775807) (hm : m ≤ n) (h1 : 128 ≤ m) : (wrap64 ((m : Int) / 128)).toNat < m := by rw [num_q h hm]; omega
theorem num_le {m n : Nat} (hm : m ≤ n) : m / 128 ≤ n := by omega
set_option maxRecDepth 100000 in
theorem number_yes {w : World} {p : Nat} {o : Option Nat} {F : List Int} (h : WR w p o F) (n : Nat) (hn : (n : Int) ≤ 9223372036854775807) (lo hi : Int) (h1 : decide (lo ≤ (n : Int)) = true) (h2 : decide ((n : Int) ≤ hi) = true) :
    Calls Tryd.prog 40 #[.pointer (some ⟨p, 0, none⟩), .int .i64 n, .int .i64 lo, .int .i64 hi] w fun e w' => e = .returned (.tuple #[]) ∧ ∃ o', WR w' p o' (F ++ numB n) ∧ St p o w o' w' := by
  have HW := hid_mk h
  have HNB := hid_mk hn
  clear h hn
  go_enter Tryd.func40, Tryd.ntmps40
  go_wp2_with (go_at_call 50; refine calls_same (may_yes _) ?_)
  clear h1 h2
  go_loopw [1] (fun x wr => ∃ m : Nat, x = .int .i64 m ∧ m ≤ n ∧ ∃ o' F', F' ++ numB m = F ++ numB n ∧ WR wr p o' F' ∧ St p o w o' wr) (fun x _ => (intOf x).toNat)
  case atStart => exact ⟨n, rfl, Nat.le_refl _, o, F, rfl, HW.out, St.refl _ _ _⟩
  case round =>
    obtain ⟨m, rfl, hmn, o', F', hF, hW, hS⟩ := hrel
    have HM := hid_mk hmn
    clear hmn
    have HF := hid_mk hF
    have HW1 := hid_mk hW
    have HS := hid_mk hS
    clear hF hW hS
    by_cases hgo : 128 ≤ m
    · have g1 : (128 : Int) ≤ (m : Int) := by omega
      have hd : decide ((128 : Int) ≤ (m : Int)) = true := by simp; omega
      go_wp2_with (go_at_call 39; refine (put_one (b := ((128 + m % 128 : Nat) : Int)) HW1.out (by omega) (by omega) (by omega) rfl).mono ?_; rintro e w2 ⟨rfl, o2, hW2, hS2⟩; have HW2 := hid_mk hW2; have HS2 := hid_mk hS2; clear hW2 hS2)
      go_roundw
      case rel => exact ⟨m / 128, num_v HNB.out HM.out, num_le HM.out, o2, _, by rw [← HF.out, numB_ge hgo, List.append_assoc]; rfl, HW2.out, HS.out.trans HS2.out⟩
      case measure => rw [num_q HNB.out HM.out]; simp [intOf]; omega
    · have g1 : (m : Int) < 128 := by omega
      have hd : decide ((128 : Int) ≤ (m : Int)) = false := by simp; omega
      go_wp2_with (go_at_call 39; refine (put_one (b := (m : Int)) HW1.out (by omega) (by omega) (by omega) rfl).mono ?_; rintro e w2 ⟨rfl, o2, hW2, hS2⟩; have HW2 := hid_mk hW2; have HS2 := hid_mk hS2; clear hW2 hS2)
      refine bodyPost_end (results_none Tryd.results40 _ _ _) rfl ⟨rfl, o2, ?_, HS.out.trans HS2.out⟩
      rw [← HF.out, numB_lt (by omega)]
      exact HW2.out
/-- a number out of its range -/
theorem number_no {w : World} {p : Nat} (n lo hi : Int) (h1 : (decide (lo ≤ n) && decide (n ≤ hi)) = false) :
    Calls Tryd.prog 40 #[.pointer (some ⟨p, 0, none⟩), .int .i64 n, .int .i64 lo, .int .i64 hi] w fun e w' => e = .panicked [stopP 62 0] ∧ w' = w := by
  rcases ha : decide (lo ≤ n) with _ | _
  · go_enter Tryd.func40, Tryd.ntmps40
    go_wp2_with (go_at_call 50; refine calls_stop (may_no _) ?_)
    exact ⟨rfl, rfl, rfl⟩
  · have hb : decide (n ≤ hi) = false := by simpa [ha] using h1
    clear h1
    go_enter Tryd.func40, Tryd.ntmps40
    go_wp2_with (go_at_call 50; refine calls_stop (may_no _) ?_)
    exact ⟨rfl, rfl, rfl⟩
/-- a fixnum -/
theorem signed_yes {w : World} {p : Nat} {o : Option Nat} {F : List Int} (h : WR w p o F) (a : Int) (h1 : decide (-1152921504606846976 ≤ a) = true) (h2 : decide (a ≤ 1152921504606846975) = true) :
    Calls Tryd.prog 61 #[.pointer (some ⟨p, 0, none⟩), .int .i64 a] w fun e w' => e = .returned (.tuple #[]) ∧ ∃ o', WR w' p o' (F ++ numB (zig a)) ∧ St p o w o' w' := by
  have HN := hid_mk (number_yes h (zig a) (by simp only [decide_eq_true_eq] at h1 h2 ⊢; unfold zig; split <;> omega) 0 2305843009213693951 (by simp) (by simp only [decide_eq_true_eq] at h1 h2 ⊢; unfold zig; split <;> omega))
  by_cases h0 : 0 ≤ a
  · have hd : decide (0 ≤ a) = true := by simpa using h0
    have hz : ((zig a : Nat) : Int) = 2 * a := by unfold zig; rw [if_pos h0]; omega
    have hw : wrap64 (2 * a) = 2 * a := by simp only [decide_eq_true_eq] at h1 h2; unfold wrap64; omega
    rw [hz] at HN
    clear hz
    clear h
    go_enter Tryd.func61, Tryd.ntmps61
    go_wp2_with (first
      | (go_at_call 50; refine calls_same (may_yes _) ?_)
      | (go_at_call 40; refine HN.out.mono ?_; rintro e w2 ⟨rfl, o2, hW2, hS2⟩))
    exact bodyPost_end (results_none Tryd.results61 _ _ _) rfl ⟨rfl, o2, hW2, hS2⟩
  · have hd : decide (0 ≤ a) = false := by simpa using h0
    have hz : ((zig a : Nat) : Int) = -2 * a - 1 := by unfold zig; rw [if_neg h0]; omega
    have hw : wrap64 (-2 * a) = -2 * a := by simp only [decide_eq_true_eq] at h1 h2; unfold wrap64; omega
    have hw2 : wrap64 (-2 * a - 1) = -2 * a - 1 := by simp only [decide_eq_true_eq] at h1 h2; unfold wrap64; omega
    rw [hz] at HN
    clear hz
    clear h
    go_enter Tryd.func61, Tryd.ntmps61
    go_wp2_with (first
      | (go_at_call 50; refine calls_same (may_yes _) ?_)
      | (go_at_call 40; refine HN.out.mono ?_; rintro e w2 ⟨rfl, o2, hW2, hS2⟩))
    exact bodyPost_end (results_none Tryd.results61 _ _ _) rfl ⟨rfl, o2, hW2, hS2⟩
theorem signed_no {w : World} {p : Nat} (a : Int) (h1 : (decide (-1152921504606846976 ≤ a) && decide (a ≤ 1152921504606846975)) = false) :
    Calls Tryd.prog 61 #[.pointer (some ⟨p, 0, none⟩), .int .i64 a] w fun e w' => e = .panicked [stopP 62 0] ∧ w' = w := by
  rcases ha : decide (-1152921504606846976 ≤ a) with _ | _
  · go_enter Tryd.func61, Tryd.ntmps61
    go_wp2_with (go_at_call 50; refine calls_stop (may_no _) ?_)
    exact ⟨rfl, rfl, rfl⟩
  · have hb : decide (a ≤ 1152921504606846975) = false := by simpa [ha] using h1
    clear h1
    go_enter Tryd.func61, Tryd.ntmps61
    go_wp2_with (go_at_call 50; refine calls_stop (may_no _) ?_)
    exact ⟨rfl, rfl, rfl⟩
end Go.Proofs.YtapjfokkcgdhhaaDoor
namespace Go.Proofs.YtapjfokkcgdhhaaDoor
open Go.RowKit
set_option linter.unusedVariables false
set_option linter.unusedSimpArgs false

theorem byte_lo (x : Int) : 0 ≤ x % 256 := Int.emod_nonneg _ (by decide)
theorem byte_hi (x : Int) : x % 256 ≤ 255 := by have := Int.emod_lt_of_pos x (show (0 : Int) < 256 by decide); omega
theorem le8_up {a : Int} {i : Nat} (h : i < 8) : (le8 a).take (i + 1) = (le8 a).take i ++ [a / 2 ^ (8 * i) % 256] := by
  have hl : (le8 a).length = 8 := by unfold le8; simp
  rw [List.take_succ_eq_append_getElem (by omega)]
  congr 2
  unfold le8
  simp only [List.getElem_map, List.getElem_range]
  rw [show (2 : Int) ^ (8 * i) = 256 ^ i by rw [Int.pow_mul]; rfl]
set_option maxRecDepth 100000 in
theorem bits_any {w : World} {p : Nat} {o : Option Nat} {F : List Int} (h : WR w p o F) (a : Int) :
    Calls Tryd.prog 62 #[.pointer (some ⟨p, 0, none⟩), .int .i64 a] w fun e w' => e = .returned (.tuple #[]) ∧ ∃ o', WR w' p o' (F ++ le8 a) ∧ St p o w o' w' := by
  have HW := hid_mk h
  clear h
  go_enter Tryd.func62, Tryd.ntmps62
  go_wp2
  go_loopw [5] (fun x wr => ∃ i : Nat, x = .int .i64 i ∧ i ≤ 8 ∧ ∃ o', WR wr p o' (F ++ (le8 a).take i) ∧ St p o w o' wr) (fun x _ => 8 - (intOf x).toNat)
  case atStart => exact ⟨0, rfl, by decide, o, by simpa using HW.out, St.refl _ _ _⟩
  case round =>
    obtain ⟨i, rfl, hi, o', hW, hS⟩ := hrel
    have HW1 := hid_mk hW
    have HS := hid_mk hS
    clear hW hS
    by_cases hgo : i < 8
    · have g1 : (i : Int) < 8 := by omega
      go_wp2_with (go_at_call 39; refine (put_one (b := a / 2 ^ (8 * i) % 256) HW1.out (byte_lo _) (byte_hi _) rfl rfl).mono ?_; rintro e w2 ⟨rfl, o2, hW2, hS2⟩; have HW2 := hid_mk hW2; have HS2 := hid_mk hS2; clear hW2 hS2)
      go_roundw
      case rel => exact ⟨i + 1, by go_num, by omega, o2, by rw [le8_up hgo, ← List.append_assoc]; exact HW2.out, HS.out.trans HS2.out⟩
      case measure => simp [intOf]; omega
    · have : i = 8 := by omega
      subst this
      go_wp2
      refine bodyPost_end (results_none Tryd.results62 _ _ _) rfl ⟨rfl, o', ?_, HS.out⟩
      have := HW1.out
      rwa [List.take_of_length_le (by rw [le8_eq]; simp)] at this
theorem operandOf_any (op : Int) (w : World) : Calls Tryd.prog 60 #[.int .i64 op] w fun e w' => e = .returned (.int .i64 (opS op)) ∧ w' = w := by
  by_cases h : 1 ≤ op ∧ op ≤ 18
  · have : op = 1 ∨ op = 2 ∨ op = 3 ∨ op = 4 ∨ op = 5 ∨ op = 6 ∨ op = 7 ∨ op = 8 ∨ op = 9 ∨ op = 10 ∨ op = 11 ∨ op = 12 ∨ op = 13 ∨ op = 14 ∨ op = 15 ∨ op = 16 ∨ op = 17 ∨ op = 18 := by omega
    clear h
    rcases this with rfl | rfl | rfl | rfl | rfl | rfl | rfl | rfl | rfl | rfl | rfl | rfl | rfl | rfl | rfl | rfl | rfl | rfl
    all_goals
      go_enter Tryd.func60, Tryd.ntmps60
      go_wp2
      go_ret
      exact ⟨rfl, rfl⟩
  · have e1 : (op == 1) = false := by simp; omega
    have e2 : (op == 2) = false := by simp; omega
    have e3 : (op == 3) = false := by simp; omega
    have e4 : (op == 4) = false := by simp; omega
    have e5 : (op == 5) = false := by simp; omega
    have e6 : (op == 6) = false := by simp; omega
    have e7 : (op == 7) = false := by simp; omega
    have e8 : (op == 8) = false := by simp; omega
    have e9 : (op == 9) = false := by simp; omega
    have e10 : (op == 10) = false := by simp; omega
    have e14 : (op == 14) = false := by simp; omega
    have e15 : (op == 15) = false := by simp; omega
    have e16 : (op == 16) = false := by simp; omega
    have e17 : (op == 17) = false := by simp; omega
    have e18 : (op == 18) = false := by simp; omega
    have key : ∀ b1 b2 b3 b4, decide (11 ≤ op) = b1 → decide (op ≤ 22) = b2 → decide (30 ≤ op) = b3 → decide (op ≤ 75) = b4 → opS op = (if (b1 && b2) || (b3 && b4) then 1 else 0) := by
      intro b1 b2 b3 b4 h1 h2 h3 h4
      rw [← h1, ← h2, ← h3, ← h4]
      simp only [Bool.or_eq_true, Bool.and_eq_true, decide_eq_true_eq]
      unfold opS
      rw [if_neg (by omega), if_neg (by omega), if_neg (by omega)]
      by_cases q : 11 ≤ op ∧ op ≤ 13 ∨ 19 ≤ op ∧ op ≤ 22 ∨ 30 ≤ op ∧ op ≤ 75
      · rw [if_pos q, if_pos (by omega)]
      · rw [if_neg q, if_neg (by omega)]
    clear h
    rcases h1 : decide (11 ≤ op) with _ | _ <;> rcases h2 : decide (op ≤ 22) with _ | _ <;> rcases h3 : decide (30 ≤ op) with _ | _ <;> rcases h4 : decide (op ≤ 75) with _ | _
    all_goals
      rw [key _ _ _ _ h1 h2 h3 h4]
      clear key
      go_enter Tryd.func60, Tryd.ntmps60
      go_wp2
      go_ret
      exact ⟨rfl, rfl⟩
end Go.Proofs.YtapjfokkcgdhhaaDoor
