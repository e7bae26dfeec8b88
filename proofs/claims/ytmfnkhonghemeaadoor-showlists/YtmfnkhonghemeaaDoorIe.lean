/- package show: the teller's lists -/
import Derived.Test.YtmfnkhonghemeaaDoorId
import Derived.ArgAppend
namespace Go.Proofs.YtmfnkhonghemeaaDoor
open Go.RowKit
set_option linter.unusedVariables false
set_option linter.unusedSimpArgs false

theorem info_p {T : TypeId} {z : Value} {a b : Nat} (h : (Tryd.prog.info? T).map (fun i => (i.zero, i.size, i.bytes)) = some (some z, a, b)) : ∃ i, Tryd.prog.info? T = some i ∧ i.zero = some z ∧ i.size = a ∧ i.bytes = b := by
  cases hi : Tryd.prog.info? T with
  | none => rw [hi] at h; cases h
  | some i => rw [hi] at h; simp at h; exact ⟨i, rfl, h.1, h.2.1, h.2.2⟩
theorem info_task : (Tryd.prog.info? 72).map (fun i => (i.zero, i.size, i.bytes)) = some (some (.agg #[.int .i64 0, .int .i64 0, .int .i64 0]), 3, 24) := by kernel_rfl
theorem info_str : (Tryd.prog.info? 9).map (fun i => (i.zero, i.size, i.bytes)) = some (some (.string ⟨#[]⟩), 1, 16) := by kernel_rfl
/-- an append to nothing: a new row -/
theorem app_nil {T E : TypeId} {z : Value} {sz by_ : Nat} (hT : Tryd.prog.underlying T = some (.slice E)) (hi : (Tryd.prog.info? E).map (fun i => (i.zero, i.size, i.bytes)) = some (some z, sz, by_)) (hz : z.cells.size = sz) (h1 : 0 < sz)
    {ops : Array Oper} {rest : List Oper} {o : Oper} {a : Go.Act} {Q : Exit → Go.Act → World → Prop} {w : World} (hgd : o.guard = none) (sx xx : Operand)
    (ho : o.op = .call { callee := .builtin .append, args := #[sx, xx], argTypes := #[T, T] })
    (hs : a.eval sx = .slice none 0 0) {bb m c : Nat} (hx : a.eval xx = .slice (some ⟨bb, 0, none⟩) m c) {ys : Array Value} (hn : Bl w bb ys E) (hm : ys.size = m * sz) (hone : ∀ u ∈ ys.toList, u.oneCell' = true) (hb : 1 ≤ m ∧ m ≤ 1000000) (hb2 : by_ ≤ 1000)
    (h : ∀ (g cap : Nat) (cur : Array Value) (w' : World), w.heap.size ≤ g → Bl w' g cur E → (∀ (j : Nat) (u : Value), ys[j]? = some u → cur[j]? = some u) → Out 0 0 w w' → wpList Tryd.prog ops Q rest (a.put o.dst (.slice (some ⟨g, 0, none⟩) m cap)) w') : wpList Tryd.prog ops Q (o :: rest) a w := by
  obtain ⟨i0, hi0, hz0, hz1, hz2⟩ := info_p hi
  refine wpList_append_grows w hgd sx xx T ho E i0 z sz by_ hT hi0 hz0 hz1 hz2 hz h1 none 0 0 [] hs (fun _ => ⟨rfl, rfl⟩) (by simp) (fun b hb => by cases hb) ⟨bb, 0, none⟩ m c ys.toList hx (by simpa using hm) ?_ hone (by omega) (by unfold maxLen; omega) ?_ ?_
  · intro j u hj
    have := hn.cell (i := j) (v := u) (by simpa using hj)
    rw [Addr.add_lit, Nat.zero_add]; exact this
  · calc (0 + m) * by_ ≤ 1000000 * 1000 := Nat.mul_le_mul (by omega) hb2
      _ ≤ _ := by decide
  · intro v' w' hown hgrow
    have ho' : Out 0 0 w w' := ⟨hgrow.os, hgrow.tape, hgrow.output, hgrow.size, fun k h1 h2 => hgrow.block k h1 (fun e => by cases e)⟩
    obtain ⟨h1', h2⟩ := hown
    rcases h2 with ⟨e1, h2⟩ | ⟨g, cap, cur, rfl, h3, h4, h5, h6, h7, h8⟩
    · omega
    · rw [Nat.zero_add]
      refine h g cap cur w' h3 h4 (fun j u hj => ?_) ho'
      have hj' : ys.toList[j]? = some u := by simpa using hj
      rw [List.nil_append] at h8
      rw [← h8, List.getElem?_take] at hj'
      split at hj'
      · simpa using hj'
      · cases hj'

/-- block t holds a teller -/
def TL (W : World) (t : Nat) (wp tv pv : Value) : Prop := Bl W t #[wp, tv, pv] 59
theorem reverse_one {W : World} {a : Option Addr} {c : Nat} : Calls Tryd.prog 28 #[.slice a 1 c] W fun e w' => (∃ v, e = .returned v) ∧ w' = W := by
  go_enter Tryd.func28, Tryd.ntmps28
  go_wp2
  refine wp_loop_once ?_
  go_wp2
  exact bodyPost_end (results_none Tryd.results28 _ _ _) rfl ⟨⟨_, rfl⟩, rfl⟩
theorem later_one {W : World} {t b c : Nat} {wp pv : Value} {x y z : Int} (h : TL W t wp (.slice none 0 0) pv) (hb : Bl W b #[.int .i64 x, .int .i64 y, .int .i64 z] 72) :
    Calls Tryd.prog 19 #[.pointer (some ⟨t, 0, none⟩), .slice (some ⟨b, 0, none⟩) 1 c] W fun e w' => (∃ v, e = .returned v) ∧ ∃ (g cap : Nat) (cur : Array Value), W.heap.size ≤ g ∧ TL w' t wp (.slice (some ⟨g, 0, none⟩) 1 cap) pv ∧ Bl w' g cur 72 ∧ cur[0]? = some (.int .i64 x) ∧ cur[1]? = some (.int .i64 y) ∧ cur[2]? = some (.int .i64 z) ∧ Out t (t + 1) W w' := by
  have c1 := h.cell (i := 1) rfl
  have z1 := h.frozen 1
  have HB := hid_mk (And.intro h hb)
  have hl := h.lt
  clear h hb
  go_enter Tryd.func19, Tryd.ntmps19
  go_wp2_with (first
    | (go_at_call 28; refine reverse_one.mono ?_; rintro e w' ⟨⟨v, rfl⟩, rfl⟩)
    | (at_builtin; refine app_nil Tryd.underlying56 info_task rfl (by decide) rfl _ _ rfl rfl rfl HB.out.2 rfl (by intro u hu; simp at hu; rcases hu with rfl | rfl | rfl <;> rfl) (by decide) (by decide) ?_; intro g cap cur w2 hg hc hcur ho; have h2 := HB.out.1.kept ho (.inr (Nat.zero_le _)); have y1 := h2.cell (i := 1) rfl; have y2 := h2.frozen 1))
  refine bodyPost_end (results_none Tryd.results19 _ _ _) rfl ⟨⟨_, rfl⟩, g, cap, cur, hg, h2.set 1 _, hc.other (by show t ≠ g; omega) _, hcur 0 _ rfl, hcur 1 _ rfl, hcur 2 _ rfl, (ho.any _ _).setCell (.inl ⟨Nat.le_refl _, Nat.lt_succ_self _⟩) _⟩
theorem add_one {W : World} {t b c : Nat} {wp tv : Value} {s : ByteArray} (h : TL W t wp tv (.slice none 0 0)) (hb : Bl W b #[.string s] 9) :
    Calls Tryd.prog 22 #[.pointer (some ⟨t, 0, none⟩), .slice (some ⟨b, 0, none⟩) 1 c] W fun e w' => (∃ v, e = .returned v) ∧ ∃ (g cap : Nat) (cur : Array Value), W.heap.size ≤ g ∧ TL w' t wp tv (.slice (some ⟨g, 0, none⟩) 1 cap) ∧ Bl w' g cur 9 ∧ cur[0]? = some (.string s) ∧ Out t (t + 1) W w' := by
  have c1 := h.cell (i := 2) rfl
  have z1 := h.frozen 2
  have HB := hid_mk (And.intro h hb)
  have hl := h.lt
  clear h hb
  go_enter Tryd.func22, Tryd.ntmps22
  go_wp2_with (at_builtin; refine app_nil Tryd.underlying57 info_str rfl (by decide) rfl _ _ rfl rfl rfl HB.out.2 rfl (by intro u hu; simp at hu; rcases hu with rfl; rfl) (by decide) (by decide) ?_; intro g cap cur w2 hg hc hcur ho; have h2 := HB.out.1.kept ho (.inr (Nat.zero_le _)); have y1 := h2.cell (i := 2) rfl; have y2 := h2.frozen 2)
  refine bodyPost_end (results_none Tryd.results22 _ _ _) rfl ⟨⟨_, rfl⟩, g, cap, cur, hg, h2.set 2 _, hc.other (by show t ≠ g; omega) _, hcur 0 _ rfl, (ho.any _ _).setCell (.inl ⟨Nat.le_refl _, Nat.lt_succ_self _⟩) _⟩
end Go.Proofs.YtmfnkhonghemeaaDoor
