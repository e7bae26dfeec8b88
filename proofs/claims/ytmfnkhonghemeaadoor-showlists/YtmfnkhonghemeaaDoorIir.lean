/- package show: the teller's state -/
import Derived.Test.YtmfnkhonghemeaaDoorIip
import Derived.Test.YtmfnkhonghemeaaDoorIhb
namespace Go.Proofs.YtmfnkhonghemeaaDoor
open Go.RowKit
set_option linter.unusedVariables false
set_option linter.unusedSimpArgs false

/-- m things more -/
theorem app_ownN {T E : TypeId} {z : Value} {sz by_ : Nat} (hT : Tryd.prog.underlying T = some (.slice E)) (hi : (Tryd.prog.info? E).map (fun i => (i.zero, i.size, i.bytes)) = some (some z, sz, by_)) (hz : z.cells.size = sz) (h1 : 0 < sz)
    {w : World} {bb c base K cap m : Nat} {ta : Option Addr} {xs : List Value} {ys : Array Value} (hown : w.ownsRow base E sz (.slice ta K cap) K xs) (hbs : base ≤ w.heap.size) (hn : Bl w bb ys E) (hm : ys.size = m * sz) (hm0 : 0 < m) (hm1 : m ≤ 10) (hone : ∀ u ∈ ys.toList, u.oneCell' = true) (hK : K ≤ 2000) (hb2 : by_ ≤ 1000) :
    ∃ (g cap' : Nat) (w' : World), (Builtin.append_ #[T, T] T #[.slice ta K cap, .slice (some ⟨bb, 0, none⟩) m c]).run Tryd.prog w = .ok (.slice (some ⟨g, 0, none⟩) (K + m) cap') w' ∧ w'.ownsRow base E sz (.slice (some ⟨g, 0, none⟩) (K + m) cap') (K + m) (xs ++ ys.toList) ∧ (w.heap.size ≤ g ∨ (Value.slice ta K cap).ownBlock = some g) ∧ Fx (fun k => (Value.slice ta K cap).ownBlock = some k) w w' := by
  obtain ⟨i0, hi0, hz0, hz1, hz2⟩ := info_p hi
  have hc : ∀ (j : Nat) u, ys.toList[j]? = some u → w.cell? ((⟨bb, 0, none⟩ : Addr).add j) = some u := by
    intro j u hj
    have := hn.cell (i := j) (v := u) (by simpa using hj)
    rw [Addr.add_lit, Nat.zero_add]; exact this
  obtain ⟨g, cap', w', hrun, hown', hgrow, hat, _⟩ := run_append_lies (P := Tryd.prog) w T T base E i0 z sz by_ hT hi0 hz0 hz1 hz2 hz h1 (.slice ta K cap) K xs hown ⟨bb, 0, none⟩ m c ys.toList (by simpa using hm) hc hone hm0 (by unfold maxLen; omega) (by
    calc (K + m) * by_ ≤ 2010 * 1000 := Nat.mul_le_mul (by omega) hb2
      _ ≤ _ := by decide) hbs w.heap.size rfl
  exact ⟨g, cap', w', hrun, hown', hat.elim .inr (fun e => .inl (Nat.le_of_eq e.symm)), ⟨hgrow.os, hgrow.tape, hgrow.output, hgrow.size, fun k h1 h2 => hgrow.block k h1 (fun e => h2 e.symm)⟩⟩
/-- an append whose run is known -/
theorem wpList_app {P : Program} {w w' : World} {ops : Array Oper} {rest : List Oper} {o : Oper} {a : Act} {Q : Exit → Act → World → Prop} {sv xv v : Value}
    (hg : o.guard = none) (s x : Operand) (t : TypeId) (hop : o.op = Op.call { callee := Callee.builtin Builtin.append, args := #[s, x], argTypes := #[t, t] }) (hs : a.eval s = sv) (hx : a.eval x = xv) (hrun : (Builtin.append_ #[t, t] o.type #[sv, xv]).run P w = .ok v w')
    (hK : wpList P ops Q rest (a.put o.dst v) w') : wpList P ops Q (o :: rest) a w := by
  refine wpList_plain hg fun K hK' => ?_
  unfold Oper.wp
  simp [execOp, hop, resolve, invoke, builtin, hs, hx, hrun, Result.andThen]
  exact hK' _ _ hK
/-- a task: what, and of which value -/
abbrev Task := Int × Int × Int
def tkL (l : List Task) : List Value := l.flatMap fun q => [.int .i64 q.1, .int .i64 q.2.1, .int .i64 q.2.2]
theorem tkL_append (l m : List Task) : tkL (l ++ m) = tkL l ++ tkL m := by simp [tkL]
theorem tkL_len (l : List Task) : (tkL l).length = l.length * 3 := by
  induction l with
  | nil => rfl
  | cons q l ih => simp only [tkL, List.flatMap_cons, List.length_append, List.length_cons] at ih ⊢; rw [ih]; simp; omega
theorem tkL_last (l : List Task) (a b c : Int) : (tkL (l ++ [(a, b, c)]))[l.length * 3]? = some (.int .i64 a) ∧ (tkL (l ++ [(a, b, c)]))[l.length * 3 + 1]? = some (.int .i64 b) ∧ (tkL (l ++ [(a, b, c)]))[l.length * 3 + 2]? = some (.int .i64 c) := by
  rw [tkL_append]
  have hl := tkL_len l
  refine ⟨?_, ?_, ?_⟩
  · rw [List.getElem?_append_right (by omega), show l.length * 3 - (tkL l).length = 0 from by omega]; rfl
  · rw [List.getElem?_append_right (by omega), show l.length * 3 + 1 - (tkL l).length = 1 from by omega]; rfl
  · rw [List.getElem?_append_right (by omega), show l.length * 3 + 2 - (tkL l).length = 2 from by omega]; rfl
def stL (l : List ByteArray) : List Value := l.map .string
/-- the teller: its tasks and its pieces in rows of their own, from B on -/
def TS (B : Nat) (w : World) (t : Nat) (wp : Value) (ta : Option Addr) (tc : Nat) (pa : Option Addr) (pc : Nat) (tasks : List Task) (pieces : List ByteArray) : Prop :=
  TL w t wp (.slice ta tasks.length tc) (.slice pa pieces.length pc) ∧ w.ownsRow B 72 3 (.slice ta tasks.length tc) tasks.length (tkL tasks) ∧ w.ownsRow B 9 1 (.slice pa pieces.length pc) pieces.length (stL pieces) ∧ t < B ∧ B ≤ w.heap.size
section
variable {B t tc pc : Nat} {w w' : World} {wp : Value} {ta pa : Option Addr} {tasks : List Task} {pieces : List ByteArray}
theorem TS.fx {S : Nat → Prop} (h : TS B w t wp ta tc pa pc tasks pieces) (x : Fx S w w') (h1 : ∀ b, S b → b < t ∨ (t < b ∧ b < B)) : TS B w' t wp ta tc pa pc tasks pieces := by
  obtain ⟨a, b, c, d, e⟩ := h
  refine ⟨a.fx x (fun h => by have := h1 _ h; omega), own_fx b x (fun g e h => ?_), own_fx c x (fun g e h => ?_), d, Nat.le_trans e x.size⟩
  · have := h1 _ h; have := (own_ge b e).1; omega
  · have := h1 _ h; have := (own_ge c e).1; omega
theorem TS.out (h : TS B w t wp ta tc pa pc tasks pieces) (o : Out 0 0 w w') : TS B w' t wp ta tc pa pc tasks pieces :=
  h.fx (S := fun _ => False) (Fx.of_out o (fun b h1 h2 _ => by omega)) (fun _ h => h.elim)
theorem TS.ne (h : TS B w t wp ta tc pa pc tasks pieces) : ∀ g, (Value.slice ta tasks.length tc).ownBlock = some g → (Value.slice pa pieces.length pc).ownBlock = some g → False := by
  intro g h1 h2
  obtain ⟨_, a, b, _⟩ := h
  obtain ⟨_, ⟨e, _⟩ | ⟨g1, c1, cur1, e1, _, b1, _⟩⟩ := a
  · rw [e] at h1; simp [Value.ownBlock] at h1
  obtain ⟨_, ⟨e, _⟩ | ⟨g2, c2, cur2, e2, _, b2, _⟩⟩ := b
  · rw [e] at h2; simp [Value.ownBlock] at h2
  rw [e1] at h1; rw [e2] at h2
  simp [Value.ownBlock] at h1 h2
  subst h1; subst h2
  rw [b1] at b2
  simp at b2
end
/-- the blocks of a teller -/
def RW (t : Nat) (ta pa : Option Addr) (b : Nat) : Prop := b = t ∨ ta.map (·.block) = some b ∨ pa.map (·.block) = some b
theorem own_map {a : Option Addr} {l c b : Nat} (h : (Value.slice a l c).ownBlock = some b) : a.map (·.block) = some b := by
  cases a with
  | none => simp [Value.ownBlock] at h
  | some x => simpa [Value.ownBlock] using h
/-- what a call of the teller's leaves -/
def TSQ (B t : Nat) (wp : Value) (S : Nat → Prop) (W : World) (tasks : List Task) (pieces : List ByteArray) (e : Ending) (w' : World) : Prop := (∃ v, e = .returned v) ∧ ∃ ta tc pa pc, TS B w' t wp ta tc pa pc tasks pieces ∧ Fx S W w' ∧ ∀ b, RW t ta pa b → S b ∨ W.heap.size ≤ b
set_option maxRecDepth 100000 in
set_option maxHeartbeats 2000000 in
theorem add_any {B t tc pc b c m : Nat} {W : World} {wp : Value} {ta pa : Option Addr} {tasks : List Task} {pieces ss : List ByteArray} (h : TS B W t wp ta tc pa pc tasks pieces) (hb : Bl W b (stL ss).toArray 9) (hs : ss.length = m) (hm0 : 0 < m) (hm : m ≤ 10) (hp : pieces.length ≤ 2000) :
    Calls Tryd.prog 22 #[.pointer (some ⟨t, 0, none⟩), .slice (some ⟨b, 0, none⟩) m c] W (TSQ B t wp (RW t ta pa) W tasks (pieces ++ ss)) := by
  obtain ⟨hT, hr, hs2, htB, hB⟩ := h
  have hne := TS.ne ⟨hT, hr, hs2, htB, hB⟩
  obtain ⟨g, cap', w1, hrun, hown, hg, x1⟩ := app_ownN (c := c) Tryd.underlying57 info_str rfl (by decide) hs2 hB hb (by simp [stL, hs]) hm0 hm (by intro u hu; simp [stL] at hu; obtain ⟨s, _, rfl⟩ := hu; rfl) hp (by decide)
  have c1 := hT.cell (i := 2) rfl
  have hT1 : TL w1 t wp _ _ := Bl.fx hT x1 (fun e => by have := (own_ge hs2 e).1; omega)
  have y1 := hT1.cell (i := 2) rfl
  have y2 := hT1.frozen 2
  have HE := hid_mk (And.intro hT1 (And.intro hr (And.intro hs2 (And.intro hown (And.intro hg (And.intro x1 (And.intro htB (And.intro hB hne))))))))
  clear hT hr hs2 htB hB hown hg x1 hT1 hne hb
  go_enter Tryd.func22, Tryd.ntmps22
  go_wp2_with (at_builtin; refine wpList_app rfl _ _ 57 rfl rfl rfl hrun ?_)
  obtain ⟨hT1, hr, hs2, hown, hg, x1, htB, hB, hne⟩ := HE.out
  have o2 : Out t (t + 1) w1 (w1.setCell ⟨t, 2, none⟩ (.slice (some ⟨g, 0, none⟩) (pieces.length + m) cap')) := (Out.refl _ _ _).setCell (p := ⟨t, 2, none⟩) (.inl ⟨Nat.le_refl _, Nat.lt_succ_self _⟩) _
  have x2 : Fx (fun b => b = t) w1 (w1.setCell ⟨t, 2, none⟩ (.slice (some ⟨g, 0, none⟩) (pieces.length + m) cap')) := Fx.of_out o2 (fun b h1 h2 _ => by omega)
  have hpo : ∀ b, (Value.slice pa pieces.length pc).ownBlock = some b → RW t ta pa b := fun b h => .inr (.inr (own_map h))
  refine bodyPost_end (results_none Tryd.results22 _ _ _) rfl ⟨⟨_, rfl⟩, ta, tc, some ⟨g, 0, none⟩, cap', ⟨?_, ?_, ?_, htB, Nat.le_trans hB (Nat.le_trans x1.size x2.size)⟩, (x1.wide (fun b _ h => hpo b h)).trans (x2.wide (fun b _ h => .inl h)), ?_⟩
  · rw [List.length_append, hs]; exact hT1.set 2 _
  · exact own_fx (own_fx hr x1 (fun g e => hne g e)) x2 (fun g e => by have := (own_ge hr e).1; omega)
  · rw [List.length_append, hs]; unfold stL; rw [List.map_append]
    exact own_fx hown x2 (fun g2 e => by have := (own_ge hown e).1; omega)
  · intro b h
    rcases h with h | h | h
    · exact .inl (.inl h)
    · exact .inl (.inr (.inl h))
    · simp at h; subst h
      exact hg.elim .inr (fun h => .inl (hpo _ h))
end Go.Proofs.YtmfnkhonghemeaaDoor
