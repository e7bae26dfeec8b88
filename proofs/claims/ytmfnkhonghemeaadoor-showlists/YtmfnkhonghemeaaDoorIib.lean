/- package show: a container that is met: what its list of things keeps -/
import Derived.Test.YtmfnkhonghemeaaDoorIia
import Derived.Test.YtmfnkhonghemeaaDoorIq
import Derived.Deep.AppendLies
namespace Go.Proofs.YtmfnkhonghemeaaDoor
open Go.RowKit
set_option linter.unusedVariables false
set_option linter.unusedSimpArgs false

/-- the world but for the blocks of S -/
def Fx (S : Nat → Prop) (w w' : World) : Prop := w'.os = w.os ∧ w'.tape = w.tape ∧ w'.output = w.output ∧ w.heap.size ≤ w'.heap.size ∧ ∀ k, k < w.heap.size → ¬ S k → w'.heap[k]? = w.heap[k]?
theorem Fx.size {S : Nat → Prop} {w w' : World} (h : Fx S w w') : w.heap.size ≤ w'.heap.size := h.2.2.2.1
theorem Fx.trans {S : Nat → Prop} {a b c : World} (h : Fx S a b) (g : Fx S b c) : Fx S a c :=
  ⟨g.1.trans h.1, g.2.1.trans h.2.1, g.2.2.1.trans h.2.2.1, Nat.le_trans h.size g.size, fun k h1 h2 => (g.2.2.2.2 k (Nat.lt_of_lt_of_le h1 h.size) h2).trans (h.2.2.2.2 k h1 h2)⟩
theorem Fx.of_out {S : Nat → Prop} {lo hi : Nat} {w w' : World} (h : Out lo hi w w') (hS : ∀ k, lo ≤ k → k < hi → k < w.heap.size → S k) : Fx S w w' :=
  ⟨h.1, h.2.1, h.2.2.1, h.size, fun k h1 h2 => h.block h1 (by
    by_cases a : lo ≤ k
    · by_cases b : k < hi
      · exact (h2 (hS k a b h1)).elim
      · exact .inr (by omega)
    · exact .inl (by omega))⟩
theorem Fx.wide {S S' : Nat → Prop} {w w' : World} (h : Fx S w w') (hS : ∀ k, k < w.heap.size → S k → S' k) : Fx S' w w' :=
  ⟨h.1, h.2.1, h.2.2.1, h.size, fun k h1 h2 => h.2.2.2.2 k h1 (fun q => h2 (hS k h1 q))⟩
theorem Fx.heap {S : Nat → Prop} {w w' : World} (h : Fx S w w') {b : Nat} {o : Obj} (hc : w.heap[b]? = some o) (h2 : ¬ S b) : w'.heap[b]? = some o := by
  rw [h.2.2.2.2 b (List.getElem?_eq_some_iff.1 (by simpa using hc)).1 h2]; exact hc
theorem Bl.fx {S : Nat → Prop} {w w' : World} {g : Nat} {cs : Array Value} {T : TypeId} (h : Bl w g cs T) (f : Fx S w w') (h2 : ¬ S g) : Bl w' g cs T := f.heap h h2
theorem MpAt.fx {S : Nat → Prop} {w w' : World} {b : Nat} {f : Int → Option Value} (h : MpAt w b f) (x : Fx S w w') (h2 : ¬ S b) : MpAt w' b f := by
  obtain ⟨es, clock, hb, r⟩ := h
  exact ⟨es, clock, x.heap hb h2, r⟩
theorem own_fx {S : Nat → Prop} {w w' : World} {v : Value} {base k sz : Nat} {xs : List Value} {T : TypeId} (h : w.ownsRow base T sz v k xs) (x : Fx S w w') (h2 : ∀ g, v.ownBlock = some g → ¬ S g) : w'.ownsRow base T sz v k xs := by
  obtain ⟨hlen, hcase⟩ := h
  refine ⟨hlen, ?_⟩
  rcases hcase with ⟨hv, h0⟩ | ⟨g, cap', cur, rfl, hg1, hg2, hg3⟩
  · exact .inl ⟨hv, h0⟩
  · exact .inr ⟨g, cap', cur, rfl, hg1, x.heap hg2 (h2 g rfl), hg3⟩
/-- one thing more -/
theorem app_own {T E : TypeId} {z : Value} {sz by_ : Nat} (hT : Tryd.prog.underlying T = some (.slice E)) (hi : (Tryd.prog.info? E).map (fun i => (i.zero, i.size, i.bytes)) = some (some z, sz, by_)) (hz : z.cells.size = sz) (h1 : 0 < sz)
    {w : World} {bb c base K cap : Nat} {ta : Option Addr} {xs : List Value} {ys : Array Value} (hown : w.ownsRow base E sz (.slice ta K cap) K xs) (hbs : base ≤ w.heap.size) (hn : Bl w bb ys E) (hm : ys.size = 1 * sz) (hone : ∀ u ∈ ys.toList, u.oneCell' = true) (hK : K ≤ 1000) (hb2 : by_ ≤ 1000) :
    ∃ (g cap' : Nat) (w' : World), (Builtin.append_ #[T, T] T #[.slice ta K cap, .slice (some ⟨bb, 0, none⟩) 1 c]).run Tryd.prog w = .ok (.slice (some ⟨g, 0, none⟩) (K + 1) cap') w' ∧ w'.ownsRow base E sz (.slice (some ⟨g, 0, none⟩) (K + 1) cap') (K + 1) (xs ++ ys.toList) ∧ (w.heap.size ≤ g ∨ (Value.slice ta K cap).ownBlock = some g) ∧ Fx (fun k => (Value.slice ta K cap).ownBlock = some k) w w' := by
  obtain ⟨i0, hi0, hz0, hz1, hz2⟩ := info_p hi
  have hc : ∀ (j : Nat) u, ys.toList[j]? = some u → w.cell? ((⟨bb, 0, none⟩ : Addr).add j) = some u := by
    intro j u hj
    have := hn.cell (i := j) (v := u) (by simpa using hj)
    rw [Addr.add_lit, Nat.zero_add]; exact this
  obtain ⟨g, cap', w', hrun, hown', hgrow, hat, _⟩ := run_append_lies (P := Tryd.prog) w T T base E i0 z sz by_ hT hi0 hz0 hz1 hz2 hz h1 (.slice ta K cap) K xs hown ⟨bb, 0, none⟩ 1 c ys.toList (by simpa using hm) hc hone (by decide) (by unfold maxLen; omega) (by
    calc (K + 1) * by_ ≤ 1001 * 1000 := Nat.mul_le_mul (by omega) hb2
      _ ≤ _ := by decide) hbs w.heap.size rfl
  exact ⟨g, cap', w', hrun, hown', hat.elim .inr (fun e => .inl (Nat.le_of_eq e.symm)), ⟨hgrow.os, hgrow.tape, hgrow.output, hgrow.size, fun k h1 h2 => hgrow.block k h1 (fun e => h2 e.symm)⟩⟩
set_option maxRecDepth 100000 in
set_option maxHeartbeats 2000000 in
theorem leaf_cont {W : World} {i k : Int} {a1 a2 a3 : Option Addr} {l1 l2 l3 c1 c2 c3 : Nat} (hk : k = 1 ∨ k = 2) :
    Calls Tryd.prog 38 #[.agg #[.int .i64 i, .int .i64 k, .slice a1 l1 c1, .slice a2 l2 c2, .slice a3 l3 c3]] W fun e w' => e = .returned (.string ⟨#[]⟩) ∧ Out 0 0 W w' := by
  have x1 := (Bl.new W #[.int .i64 i, .int .i64 k, .slice a1 l1 c1, .slice a2 l2 c2, .slice a3 l3 c3] 34).cell (i := 1) rfl
  have o1 : Out 0 0 W (W.alloc (.cells #[.int .i64 i, .int .i64 k, .slice a1 l1 c1, .slice a2 l2 c2, .slice a3 l3 c3] 34)) := (Out.refl _ _ _).alloc _
  have HO := hid_mk o1
  clear o1
  rcases hk with rfl | rfl
  all_goals
    go_enter Tryd.func38, Tryd.ntmps38
    go_wp2_with fail
    go_ret
    exact ⟨rfl, HO.out⟩
end Go.Proofs.YtmfnkhonghemeaaDoor
