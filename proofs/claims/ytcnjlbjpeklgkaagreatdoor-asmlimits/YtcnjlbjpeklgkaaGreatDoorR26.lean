import Derived.Test.YtcnjlbjpeklgkaaGreatDoorR25
import Derived.Test.YtcnjlbjpeklgkaaGreatDoorR12
namespace Go.Proofs.YtcnjlbjpeklgkaaGreatDoor
open Go.RowKit Go.MapKept
attribute [local go_sem] Oper.semAt_some
set_option linter.unusedVariables false
set_option linter.unusedSimpArgs false

theorem res_one {P : Program} {fn : Func} {p q r : Tmp} {a : TypeId} {t : Array Value} {w : World} {v1 : Value} {A1 : Addr} (hr : fn.results = #[.cell p a, .tmp q, .tmp r]) (hp : t.getD p undef = .pointer (some A1)) (r1 : (loadVar a A1).run P w = .ok v1 w) : (results fn t).run P w = .ok (.tuple #[v1, t.getD q undef, t.getD r undef]) w := by
  have hp' : t[p]?.getD undef = .pointer (some A1) := by simpa using hp
  simp only [results, hr]
  simp [Sem.run_bind, hp', asAddr, r1, Result.andThen]
theorem load_prog {w : World} {g : Nat} {x : Int} {a b : Option Addr} {n m c d : Nat} (hg : Bl w g #[.int .i64 x, .slice a n c, .slice b m d] 32) : (loadVar 32 ⟨g, 0, none⟩).run Tryz.prog w = .ok (.agg #[.int .i64 x, .slice a n c, .slice b m d]) w := by
  exact run_loadVar_row w g 32 32 _ (0, 0) _ hg Tryz.underlying32 rfl (by rw [show (#[Value.int .i64 x, Value.slice a n c, Value.slice b m d] : Array Value).size = 3 from rfl]; kernel_rfl)
theorem asm_dfr {w : World} {h : Nat} {o : Obj} (hd : w.heap[h + 5]? = some o) {v0 v1 v2 : Value} : ((((w.setCell ⟨h, 0, none⟩ v0).setCell ⟨h, 1, none⟩ v1).setCell ⟨h, 2, none⟩ v2).drew).heap[h + 5]? = some o :=
  ((((Out.refl h (h + 1) w).setCell (p := ⟨h, 0, none⟩) (.inl ⟨Nat.le_refl _, Nat.lt_succ_self _⟩) v0).setCell (p := ⟨h, 1, none⟩) (.inl ⟨Nat.le_refl _, Nat.lt_succ_self _⟩) v1).setCell (p := ⟨h, 2, none⟩) (.inl ⟨Nat.le_refl _, Nat.lt_succ_self _⟩) v2).drew.heap hd (.inr (by omega))
theorem asm_zero {w : World} {h : Nat} {a b c v0 v1 v2 : Value} {T : TypeId} (hb : Bl w h #[a, b, c] T) (o : Obj) : Bl ((((w.setCell ⟨h, 0, none⟩ v0).setCell ⟨h, 1, none⟩ v1).setCell ⟨h, 2, none⟩ v2).drew.putObj (h + 5) o) h #[v0, v1, v2] T := by
  have k := (((hb.set 0 v0).set 1 v1).set 2 v2).kept ((Out.refl 0 0 _).drew) (.inr (Nat.zero_le _))
  exact Bl.kept k (out_putObj _ (h + 5) o) (.inl (by omega))
theorem asm_out {w0 w : World} {h : Nat} (ho : Out 0 0 w0 w) (hh : w0.heap.size = h) (v0 v1 v2 : Value) (o : Obj) : Out 0 0 w0 ((((w.setCell ⟨h, 0, none⟩ v0).setCell ⟨h, 1, none⟩ v1).setCell ⟨h, 2, none⟩ v2).drew.putObj (h + 5) o) :=
  ((((ho.setCell (p := ⟨h, 0, none⟩) (.inr (by show w0.heap.size ≤ h; omega)) v0).setCell (p := ⟨h, 1, none⟩) (.inr (by show w0.heap.size ≤ h; omega)) v1).setCell (p := ⟨h, 2, none⟩) (.inr (by show w0.heap.size ≤ h; omega)) v2).drew).past (out_putObj _ (h + 5) o) (by omega)
theorem asm_dfr2 {w : World} {h : Nat} {o : Obj} (hd : w.heap[h + 5]? = some o) {v0 v1 v2 : Value} : (((w.setCell ⟨h, 0, none⟩ v0).setCell ⟨h, 1, none⟩ v1).setCell ⟨h, 2, none⟩ v2).heap[h + 5]? = some o :=
  ((((Out.refl h (h + 1) w).setCell (p := ⟨h, 0, none⟩) (.inl ⟨Nat.le_refl _, Nat.lt_succ_self _⟩) v0).setCell (p := ⟨h, 1, none⟩) (.inl ⟨Nat.le_refl _, Nat.lt_succ_self _⟩) v1).setCell (p := ⟨h, 2, none⟩) (.inl ⟨Nat.le_refl _, Nat.lt_succ_self _⟩) v2).heap hd (.inr (by omega))
theorem asm_zero2 {w : World} {h : Nat} {a b c v0 v1 v2 : Value} {T : TypeId} (hb : Bl w h #[a, b, c] T) (o : Obj) : Bl ((((w.setCell ⟨h, 0, none⟩ v0).setCell ⟨h, 1, none⟩ v1).setCell ⟨h, 2, none⟩ v2).putObj (h + 5) o) h #[v0, v1, v2] T :=
  Bl.kept (((hb.set 0 v0).set 1 v1).set 2 v2) (out_putObj _ (h + 5) o) (.inl (by omega))
theorem asm_out2 {w0 w : World} {h : Nat} (ho : Out 0 0 w0 w) (hh : w0.heap.size = h) (v0 v1 v2 : Value) (o : Obj) : Out 0 0 w0 ((((w.setCell ⟨h, 0, none⟩ v0).setCell ⟨h, 1, none⟩ v1).setCell ⟨h, 2, none⟩ v2).putObj (h + 5) o) :=
  (((ho.setCell (p := ⟨h, 0, none⟩) (.inr (by show w0.heap.size ≤ h; omega)) v0).setCell (p := ⟨h, 1, none⟩) (.inr (by show w0.heap.size ≤ h; omega)) v1).setCell (p := ⟨h, 2, none⟩) (.inr (by show w0.heap.size ≤ h; omega)) v2).past (out_putObj _ (h + 5) o) (by omega)
def zeroL : Low := ⟨0, [], [], false, fun _ => none, fun _ => [], 0, 0⟩
/-- an assembler is made -/
theorem asm_new {w W : World} {h : Nat} {t : ByteArray} (hh : w.heap.size = h) (hW : (((((w.alloc (.cells #[.int .i64 0, .slice none 0 0, .slice none 0 0] 32)).alloc (.map #[] 0)).alloc (.map #[] 0)).alloc (.cells #[.int .i64 0, .slice none 0 0, .slice none 0 0, .bool false, .map (some (h + 1)), .map (some (h + 1 + 1)), .int .i64 0, .int .i64 0] 77)).alloc (.cells #[.string t] 9)) = W) :
    AL W (h + 1 + 1 + 1) (h + 1) (h + 1 + 1) zeroL ∧ Bl W h #[.int .i64 0, .slice none 0 0, .slice none 0 0] 32 ∧ Bl W (h + 1 + 1 + 1 + 1) #[.string t] 9 ∧ Out 0 0 w W ∧ W.heap.size = h + 5 := by
  subst hh hW
  have e0 := Bl.new w #[.int .i64 0, .slice none 0 0, .slice none 0 0] 32
  have m1 := mq_new (w.alloc (.cells #[.int .i64 0, .slice none 0 0, .slice none 0 0] 32))
  have m2 := mq_new ((w.alloc (.cells #[.int .i64 0, .slice none 0 0, .slice none 0 0] 32)).alloc (.map #[] 0))
  have e3 := Bl.new (((w.alloc (.cells #[.int .i64 0, .slice none 0 0, .slice none 0 0] 32)).alloc (.map #[] 0)).alloc (.map #[] 0)) #[.int .i64 0, .slice none 0 0, .slice none 0 0, .bool false, .map (some (w.heap.size + 1)), .map (some (w.heap.size + 1 + 1)), .int .i64 0, .int .i64 0] 77
  have e4 := Bl.new ((((w.alloc (.cells #[.int .i64 0, .slice none 0 0, .slice none 0 0] 32)).alloc (.map #[] 0)).alloc (.map #[] 0)).alloc (.cells #[.int .i64 0, .slice none 0 0, .slice none 0 0, .bool false, .map (some (w.heap.size + 1)), .map (some (w.heap.size + 1 + 1)), .int .i64 0, .int .i64 0] 77)) #[.string t] 9
  simp only [size_alloc] at m1 m2 e3 e4
  have o : ∀ (V : World) (x : Obj), Out 0 0 V (V.alloc x) := fun V x => (Out.refl 0 0 V).alloc x
  have k0 := (((e0.alloc (.map #[] 0)).alloc (.map #[] 0)).alloc (.cells #[.int .i64 0, .slice none 0 0, .slice none 0 0, .bool false, .map (some (w.heap.size + 1)), .map (some (w.heap.size + 1 + 1)), .int .i64 0, .int .i64 0] 77)).alloc (.cells #[.string t] 9)
  have n1 := ((m1.kept (o _ (.map #[] 0)) (.inr (Nat.zero_le _))).kept (o _ (.cells #[.int .i64 0, .slice none 0 0, .slice none 0 0, .bool false, .map (some (w.heap.size + 1)), .map (some (w.heap.size + 1 + 1)), .int .i64 0, .int .i64 0] 77)) (.inr (Nat.zero_le _))).kept (o _ (.cells #[.string t] 9)) (.inr (Nat.zero_le _))
  have n2 := (m2.kept (o _ (.cells #[.int .i64 0, .slice none 0 0, .slice none 0 0, .bool false, .map (some (w.heap.size + 1)), .map (some (w.heap.size + 1 + 1)), .int .i64 0, .int .i64 0] 77)) (.inr (Nat.zero_le _))).kept (o _ (.cells #[.string t] 9)) (.inr (Nat.zero_le _))
  refine ⟨⟨by omega, by omega, by omega, none, 0, none, 0, 0, 0, [], [], rfl, rfl, e3.alloc _, World.ownsRow_nil _ _ _ 1, ⟨rfl, fun j v t h => by simp at h⟩, fun i j a b k _ h => by simp at h, World.ownsRow_nil _ _ _ 4, ⟨rfl, fun j v t h => by simp at h, fun i j a b k _ h => by simp at h⟩, n1, fun _ => none, n2, fun s v h => by simp at h, fun s _ => rfl, fun s t v u k _ h => by simp at h⟩, k0, e4, ((((o _ _).alloc _).alloc _).alloc _).alloc _, by simp⟩
/-- between two lines: r is still to come -/
def LI (w0 : World) (h l : Nat) (t r : ByteArray) (w : World) : Prop := ∃ m s k, Rel m s k ∧ MLim m k ∧ MBd m ∧ AL w (h + 1 + 1 + 1) (h + 1) (h + 1 + 1) s ∧ Bl w (h + 1 + 1 + 1 + 1) #[.string r] 9 ∧ r.size ≤ 1048576 ∧ k + (lnsF (bt r)).length ≤ 100000 ∧
  MkF.run plO m (k + 1) (lnsF (bt r)) = MkF.run plO MkF.zero 1 (lnsF (bt t)) ∧ Out 0 0 w0 w ∧ Bl w h #[.int .i64 0, .slice none 0 0, .slice none 0 0] 32 ∧ w.heap[h + 5]? = some (.deferred (some []))
theorem Fr.obj {p bl bu k : Nat} {w w' : World} {o : Obj} (h : Fr p bl bu w w') (hk : w.heap[k]? = some o) (h1 : k ≠ p) (h2 : k ≠ bl) (h3 : k ≠ bu) (ho : ∀ cs E f, o ≠ .cells cs E f) : w'.heap[k]? = some o := by
  refine h.heap hk ?_
  rintro (q | q | q | ⟨_, cs, E, q, _⟩)
  · exact h1 q
  · exact h2 q
  · exact h3 q
  · have e := hk.symm.trans q
    exact ho _ _ _ (Option.some.inj e)
theorem lnsA_left : ∀ (x : List Int), (10 : Int) ∉ x → ∀ l, lnsA l x = if l ++ x = [] then [] else [l ++ x]
  | [], _, l => by simp [lnsA]
  | c :: x, hx, l => by
    have hc : c ≠ 10 := fun q => hx (by simp [q])
    rw [lnsA, if_neg hc, lnsA_left x (fun q => hx (by simp [q]))]
    simp
/-- a change elsewhere -/
theorem AL.other {p bl bu g : Nat} {w w' : World} {s : Low} (h : AL w p bl bu s) (x : Fx (fun k => k = g) w w') (h1 : g ≠ p) (h2 : g ≠ bl) (h3 : g ≠ bu) (hO : ∀ cs E, Bl w g cs E → ¬ OwnT E) : AL w' p bl bu s := by
  obtain ⟨a1, a2, a3, ta, tc, fa, fc, nt, nf, vs, cs, e1, e2, b1, b2, b3, b4, b5, b6, b7, b8⟩ := h
  have ow : ∀ {B sz n k : Nat} {E : TypeId} {v : Value} {xs : List Value}, w.ownsRow B E sz v n xs → OwnT E → v.ownBlock = some k → k ≠ g := fun hr hE hk e => by
    obtain ⟨c2, hb2⟩ := own_bl hr hk
    subst e
    exact hO _ _ hb2 hE
  refine ⟨a1, a2, a3, ta, tc, fa, fc, nt, nf, vs, cs, e1, e2, b1.fx x (fun e => h1 e.symm), own_fx b2 x fun k hk => ow b2 (by unfold OwnT; simp) hk, b3.fx x fun j v t k q1 q2 q3 => ?_, b4, own_fx b5 x fun k hk => ow b5 (by unfold OwnT; simp) hk, b6.fx x fun j v t k q1 q2 q3 => ?_, ?_, b8.fx x (fun e => h3 e.symm) fun k c2 _ hk e => ?_⟩
  · obtain ⟨_, a, c, rfl, hr⟩ := b3.2 j v t q1 q2
    exact ow hr (by unfold OwnT; simp) (by rw [← q3]; exact ob_len)
  · obtain ⟨a, c, rfl, hr⟩ := b6.2.1 j v t q1 q2
    exact ow hr (by unfold OwnT; simp) (by rw [← q3]; exact ob_len)
  · obtain ⟨es, clock, hm, r⟩ := b7
    exact ⟨es, clock, x.heap hm (fun e => h2 e.symm), r⟩
  · have e' : k = g := e
    subst e'
    exact hO _ _ hk (by unfold OwnT; simp)
theorem fx_one {g : Nat} {w w' : World} (o : Out g (g + 1) w w') : Fx (fun k => k = g) w w' := ⟨o.1, o.2.1, o.2.2.1, o.size, fun k h1 h2 => o.block h1 (by have : k ≠ g := h2; omega)⟩
theorem out_fr {p bl bu : Nat} {w0 w w' : World} (o : Out 0 0 w0 w) (f : Fr p bl bu w w') (h1 : w0.heap.size ≤ p) (h2 : w0.heap.size ≤ bl) (h3 : w0.heap.size ≤ bu) : Out 0 0 w0 w' :=
  ⟨f.1.trans o.1, f.2.1.trans o.2.1, f.2.2.1.trans o.2.2.1, Nat.le_trans o.size f.size, fun k h4 _ => (f.2.2.2.2 k (Nat.lt_of_lt_of_le h4 o.size) (by
    rintro (q | q | q | ⟨q, _⟩) <;> omega)).trans (o.block h4 (.inr (Nat.zero_le _)))⟩
theorem cuts_line {r line rest : ByteArray} (h : Cuts r line rest) : line.size ≤ r.size := by
  rcases h with ⟨a, _, h2, h3⟩ | ⟨_, rfl, _⟩
  · have e2 := congrArg List.length h2
    have e3 := congrArg List.length h3
    simp only [List.length_append, List.length_cons, List.length_nil, bt_len] at e2 e3
    omega
  · exact Nat.le_refl _
/-- the line ahead of a text's rest -/
theorem cuts_lns {r line rest x : ByteArray} (h : Cuts r line rest) (hr : bt r ≠ []) (hx : bt line = bt x ++ [10] ∨ (x = line ∧ ∀ a, bt line ≠ a ++ [10])) : lnsF (bt r) = bt x :: lnsF (bt rest) ∧ x.size ≤ r.size ∧ rest.size ≤ r.size := by
  rcases h with ⟨a, h1, h2, h3⟩ | ⟨h1, rfl, rfl⟩
  · have hxa : bt x = a := by
      rcases hx with hx | ⟨_, hx⟩
      · rw [h2] at hx; exact (List.append_cancel_right hx).symm
      · exact absurd h2 (hx a)
    have hl := congrArg List.length h3
    simp only [List.length_append, List.length_cons, bt_len] at hl
    have hxl := congrArg List.length hxa
    rw [bt_len] at hxl
    refine ⟨?_, by omega, by omega⟩
    rw [h3, hxa]
    have := lnsA_row a h1 [] (bt rest)
    rw [List.nil_append] at this
    exact this
  · have hxe : x = line := by
      rcases hx with hx | ⟨e, _⟩
      · exfalso; apply h1; rw [hx]; simp
      · exact e
    subst hxe
    refine ⟨?_, Nat.le_refl _, Nat.zero_le _⟩
    have := lnsA_left (bt x) h1 []
    rw [List.nil_append, if_neg hr] at this
    exact this
/-- a line is read -/
theorem LI.step {w0 w w1 w2 : World} {h l : Nat} {t r line rest x : ByteArray} {m : MkF} {s s' : Low} {k : Nat} (hl : lnsF (bt r) = bt x :: lnsF (bt rest)) (h1 : Rel m s k) (h2 : MLim m k) (h3 : MBd m) (hk : k + (lnsF (bt r)).length ≤ 100000)
    (hrun : MkF.run plO m (k + 1) (lnsF (bt r)) = MkF.run plO MkF.zero 1 (lnsF (bt t))) (hR : ReadR s (bt x) s') : ∃ m', Rel m' s' (k + 1) ∧ MLim m' (k + 1) ∧ MBd m' ∧ k + 1 + (lnsF (bt rest)).length ≤ 100000 ∧ MkF.run plO m' (k + 1 + 1) (lnsF (bt rest)) = MkF.run plO MkF.zero 1 (lnsF (bt t)) := by
  rw [hl] at hk hrun
  simp only [List.length_cons] at hk
  exact ⟨_, h1.read x hR, h2.line h1 _, h3.line h1 h2 (by omega) x, by omega, hrun⟩
/-- no panic -/
def QP (Q : Exit → Act → World → Prop) : Exit → Act → World → Prop
  | .panic _, _, _ => False
  | e, a, w => Q e a w
theorem qp {Q : Exit → Act → World → Prop} {e : Exit} {a : Act} {w : World} (h : QP Q e a w) : Q e a w := by
  cases e with
  | panic c => exact h.elim
  | normal => exact h
  | ret => exact h
  | exit _ => exact h
  | goto _ => exact h
  | outgrown => exact h
/-- a program in memory -/
def PrAt (w : World) (lo : Nat) (v : Value) (p : PrF) : Prop := ∃ (ta : Option Addr) (tc : Nat) (fa : Option Addr) (fc nt nf : Nat) (vs cs : List Value), v = .agg #[.int .i64 p.1, .slice ta nt tc, .slice fa nf fc] ∧ nt = p.2.1.length ∧ nf = p.2.2.length ∧
  w.ownsRow lo 50 1 (.slice ta nt tc) nt vs ∧ TL w lo [] vs p.2.1 ∧ Ap vs ∧ w.ownsRow lo 39 4 (.slice fa nf fc) nf (fcl p.2.2 cs) ∧ CL w lo [] cs p.2.2
theorem prat_nil (w : World) (lo : Nat) : PrAt w lo (.agg #[.int .i64 0, .slice none 0 0, .slice none 0 0]) (0, [], []) :=
  ⟨none, 0, none, 0, 0, 0, [], [], rfl, rfl, rfl, World.ownsRow_nil _ _ _ 1, ⟨rfl, fun j v t h => by simp at h⟩, fun i j a b k _ h => by simp at h, World.ownsRow_nil _ _ _ 4, ⟨rfl, fun j v t h => by simp at h, fun i j a b k _ h => by simp at h⟩⟩
theorem TL.low {w : World} {lo lo' : Nat} {vs : List Value} {ts : List (List Int)} (h : TL w lo [] vs ts) (hl : lo' ≤ lo) : TL w lo' [] vs ts :=
  ⟨h.1, fun j v t q1 q2 => by
    obtain ⟨h1, a, c, e, h2⟩ := h.2 j v t q1 q2
    exact ⟨h1, a, c, e, Go.Joins.ownsRow_le h2 hl⟩⟩
theorem CL.low {w : World} {lo lo' : Nat} {cs : List Value} {fs : List FnF} (h : CL w lo [] cs fs) (hl : lo' ≤ lo) : CL w lo' [] cs fs :=
  ⟨h.1, fun j v t q1 q2 => by
    obtain ⟨a, c, e, h2⟩ := h.2.1 j v t q1 q2
    exact ⟨a, c, e, Go.Joins.ownsRow_le h2 hl⟩, h.2.2⟩
/-- a program that an assembler holds -/
theorem prat_of {w w' : World} {p bl bu lo h D : Nat} {ta fa : Option Addr} {tc fc nt nf : Nat} {vs cs : List Value} {s : Low} (ho : AO w p bl bu ta tc fa fc nt nf vs cs s) (x : Fx (fun k => k = h ∨ k = D) w w') (hlo : lo ≤ p + 1) (hh : h ≤ p) (hD : ∀ cs E, ¬ Bl w D cs E) : PrAt w' lo (.agg #[.int .i64 s.gl, .slice ta nt tc, .slice fa nf fc]) (s.gl, s.tx, s.fs) := by
  obtain ⟨⟨a1, a2, a3, e1, e2⟩, b1, b2, b3, b4, b5, b6, b7, b8⟩ := ho
  have ow : ∀ {sz n k : Nat} {E : TypeId} {v : Value} {xs : List Value}, w.ownsRow (p + 1) E sz v n xs → v.ownBlock = some k → ¬ (k = h ∨ k = D) := fun hr hk q => by
    have h1 := (own_ge hr hk).1
    obtain ⟨c2, h2⟩ := own_bl hr hk
    rcases q with q | q
    · omega
    · subst q; exact hD _ _ h2
  refine ⟨ta, tc, fa, fc, nt, nf, vs, cs, rfl, e1, e2, Go.Joins.ownsRow_le (own_fx b2 x fun k hk => ow b2 hk) hlo, TL.low (b3.fx x fun j v t k q1 q2 q3 => ?_) hlo, b4, Go.Joins.ownsRow_le (own_fx b5 x fun k hk => ow b5 hk) hlo, CL.low (b6.fx x fun j v t k q1 q2 q3 => ?_) hlo⟩
  · obtain ⟨_, a, c, rfl, hr⟩ := b3.2 j v t q1 q2
    exact ow hr (by rw [← q3]; exact ob_len)
  · obtain ⟨a, c, rfl, hr⟩ := b6.2.1 j v t q1 q2
    exact ow hr (by rw [← q3]; exact ob_len)
theorem asm_fx {w : World} {h : Nat} (v0 v1 v2 : Value) (o : Obj) : Fx (fun k => k = h ∨ k = h + 5) w ((((w.setCell ⟨h, 0, none⟩ v0).setCell ⟨h, 1, none⟩ v1).setCell ⟨h, 2, none⟩ v2).putObj (h + 5) o) := by
  have x1 := Fx.set (S := fun k => k = h ∨ k = h + 5) (Fx.set (S := fun k => k = h ∨ k = h + 5) (Fx.set (S := fun k => k = h ∨ k = h + 5) (Fx.refl _ w) (p := ⟨h, 0, none⟩) (.inl (.inl rfl)) v0) (p := ⟨h, 1, none⟩) (.inl (.inl rfl)) v1) (p := ⟨h, 2, none⟩) (.inl (.inl rfl)) v2
  have x2 := out_putObj (((w.setCell ⟨h, 0, none⟩ v0).setCell ⟨h, 1, none⟩ v1).setCell ⟨h, 2, none⟩ v2) (h + 5) o
  exact x1.trans ⟨x2.1, x2.2.1, x2.2.2.1, x2.size, fun k h1 h2 => x2.block h1 (by have : ¬ (k = h ∨ k = h + 5) := h2; omega)⟩
def AsmQ (w : World) (t : ByteArray) (e : Ending) (w' : World) : Prop := Out 0 0 w w' ∧ ∃ v, PrAt w' w.heap.size v (asmF plO wrE (bt t)).1 ∧ e = .returned (.tuple #[v, .int .i64 ((asmF plO wrE (bt t)).2.1 : Int), .int .i64 (asmF plO wrE (bt t)).2.2])
set_option maxRecDepth 100000 in
set_option maxHeartbeats 4000000 in
theorem assemble_any (t : ByteArray) (w : World) (hG : Gm w) (hT : Nt w) (hY : Ty w) (hN : 9 ≤ w.heap.size) (hch : ∀ y, WdOk (bt y) → y.size ≤ 1800000 → ChOk y) : Calls Tryz.prog 19 #[.string t] w (AsmQ w t) := by
  have HC := hid_mk (fun w (hs : t.size ≤ 1048576) => lines_any t (Nat.le_trans hs (by decide)) w)
  obtain ⟨N, hNl⟩ : ∃ N, (lnsF (bt t)).length = N := ⟨_, rfl⟩
  rw [hNl] at HC
  have hN0 : (0 : Int) ≤ (N : Int) := by omega
  by_cases hlong : t.size > 1048576 ∨ N > 100000
  · have hasm : asmF plO wrE (bt t) = ((0, [], []), 0, 2) := by
      unfold asmF
      rw [if_pos (by rw [bt_len, hNl]; omega)]
    have HA := hid_mk hasm
    obtain ⟨h, hh⟩ : ∃ h, w.heap.size = h := ⟨_, rfl⟩
    have HHs := hid_mk hh
    have bb := Bl.new w #[.int .i64 0, .slice none 0 0, .slice none 0 0] 32
    have ob : Out 0 0 w (w.alloc (.cells #[.int .i64 0, .slice none 0 0, .slice none 0 0] 32)) := (Out.refl 0 0 w).alloc _
    rw [hh] at bb
    have HB := hid_mk (And.intro bb ob)
    clear bb ob hasm
    by_cases hb : t.size > 1048576
    · have d1 : decide ((1048576 : Int) < (t.size : Int)) = true := decide_eq_true (by omega)
      have d3 : decide (1048576 < t.size) = true := decide_eq_true hb
      have HS1 : Hid (t.size ≤ 1048576 ∨ True) := hid_mk (.inr trivial)
      clear hlong hb hG hT hY hN hch hNl
      refine (callsIn_wide (n := 0)).1 ?_
      refine callsIn_of_wp_marks Tryz.func19 rfl trivial ?_ rfl
      simp only [Tryz.ntmps19, List.size_toArray, List.length_cons, List.length_nil, Nat.reduceAdd, Nat.reduceSub, Array.replicate_succ, Array.replicate_zero, List.push_toArray, List.append_toArray, List.nil_append, List.cons_append]
      gi_wp2_with (refine ⟨trivial, ?_⟩)
      (try rw [hh])
      generalize hV : w.alloc (.cells #[.int .i64 0, .slice none 0 0, .slice none 0 0] 32) = V at *
      refine ⟨_, res_one Tryz.results19 rfl (load_prog HB.out.1), ?_⟩
      refine ⟨HB.out.2, .agg #[.int .i64 0, .slice none 0 0, .slice none 0 0], ?_, ?_⟩
      · rw [HA.out]; exact prat_nil _ _
      · rw [HA.out]; rfl
    · have d1 : decide ((1048576 : Int) < (t.size : Int)) = false := decide_eq_false (by omega)
      have d3 : decide (1048576 < t.size) = false := decide_eq_false hb
      have d2 : decide ((100000 : Int) < (N : Int)) = true := decide_eq_true (by omega)
      have d4 : decide (100000 < N) = true := decide_eq_true (by omega)
      have HS1 : Hid (t.size ≤ 1048576) := hid_mk (by omega)
      clear hlong hb hG hT hY hN hch hNl
      refine (callsIn_wide (n := 0)).1 ?_
      refine callsIn_of_wp_marks Tryz.func19 rfl trivial ?_ rfl
      simp only [Tryz.ntmps19, List.size_toArray, List.length_cons, List.length_nil, Nat.reduceAdd, Nat.reduceSub, Array.replicate_succ, Array.replicate_zero, List.push_toArray, List.append_toArray, List.nil_append, List.cons_append]
      gi_wp2_with (first
        | (refine ⟨trivial, rfl, ?_⟩; gi_at_call 31; refine (callsIn_wide.2 (HC.out _ HS1.out)).mono ?_; rintro e w1 ⟨rfl, rfl⟩))
      (try rw [hh])
      generalize hV : w.alloc (.cells #[.int .i64 0, .slice none 0 0, .slice none 0 0] 32) = V at *
      refine ⟨_, res_one Tryz.results19 rfl (load_prog HB.out.1), ?_⟩
      refine ⟨HB.out.2, .agg #[.int .i64 0, .slice none 0 0, .slice none 0 0], ?_, ?_⟩
      · rw [HA.out]; exact prat_nil _ _
      · rw [HA.out]; rfl
  · have l1 : (t.size : Int) ≤ 1048576 := by omega
    have l2 : (N : Int) ≤ 100000 := by omega
    have d1 : decide ((1048576 : Int) < (t.size : Int)) = false := decide_eq_false (by omega)
    have d2 : decide ((100000 : Int) < (N : Int)) = false := decide_eq_false (by omega)
    have d3 : decide (1048576 < t.size) = false := decide_eq_false (by omega)
    have d4 : decide (100000 < N) = false := decide_eq_false (by omega)
    have mk1 : ∀ W, (Instr.makeMap 74 none).run Tryz.prog W = .ok (.map (some W.heap.size)) (W.alloc (.map #[] 0)) := fun W => by kernel_rfl
    have mk2 : ∀ W, (Instr.makeMap 75 none).run Tryz.prog W = .ok (.map (some W.heap.size)) (W.alloc (.map #[] 0)) := fun W => by kernel_rfl
    have HH := hid_mk (And.intro hG (And.intro hT (And.intro hY (And.intro hN (And.intro hch (And.intro (show t.size ≤ 1800000 by omega) hNl))))))
    have HSz : Hid (t.size ≤ 1048576 ∧ N ≤ 100000) := hid_mk ⟨by omega, by omega⟩
    clear hG hT hY hN hch hlong hNl
    refine (callsIn_wide (n := 0)).1 ?_
    refine callsIn_of_wp_marks Tryz.func19 rfl trivial ?_ rfl
    simp only [Tryz.ntmps19, List.size_toArray, List.length_cons, List.length_nil, Nat.reduceAdd, Nat.reduceSub, Array.replicate_succ, Array.replicate_zero, List.push_toArray, List.append_toArray, List.nil_append, List.cons_append]
    gi_wp2_with (first
      | (refine ⟨trivial, rfl, ?_⟩; gi_at_call 31; refine (callsIn_wide.2 (HC.out _ HSz.out.1)).mono ?_; rintro e w1 ⟨rfl, rfl⟩)
      | (refine ⟨trivial, rfl, ?_⟩; gi_at_call 32; refine (callsIn_wide.2 (lines_all t _)).mono ?_; rintro e w1 ⟨rfl, rfl⟩))
    obtain ⟨h, hh⟩ : ∃ h, w.heap.size = h := ⟨_, rfl⟩
    rw [hh]
    obtain ⟨W1, hW1⟩ : ∃ W1, (((((w.alloc (.cells #[.int .i64 0, .slice none 0 0, .slice none 0 0] 32)).alloc (.map #[] 0)).alloc (.map #[] 0)).alloc (.cells #[.int .i64 0, .slice none 0 0, .slice none 0 0, .bool false, .map (some (h + 1)), .map (some (h + 1 + 1)), .int .i64 0, .int .i64 0] 77)).alloc (.cells #[.string t] 9)) = W1 := ⟨_, rfl⟩
    rw [hW1]
    have HNew := hid_mk (asm_new hh hW1)
    clear hW1 d1 d2 d3 d4 l1 l2 mk1 mk2 HC
    have HHs := hid_mk hh
    have hs1 := HNew.out.2.2.2.2
    refine range_any (gf := 59) (lb := #[.pointer (some ⟨h + 1 + 1 + 1 + 1, 0, none⟩)]) rfl (enters_of Tryz.func59 (by kernel_rfl) rfl) (fun W => (∃ L, W.heap[h + 5 + 1]? = some (.loop L)) ∧ ∃ r, bt r = [] ∧ LI w h (h + 6) t r W) (fun _ _ => False) ?H ?done ?stop
    case stop => rintro c W W' q; exact q.elim
    case H =>
      intro rec hrec W2 hW2
      rw [hs1]
      have HR := hid_mk hrec
      have ho2 : Out 0 0 W1 W2 := by rw [hW2]; exact ((Out.refl 0 0 W1).alloc _).alloc _
      have hd2 : W2.heap[h + 5]? = some (.deferred (some [])) := by rw [hW2, ← hs1]; exact (heap_alloc_old _ _ (by simp)).trans (heap_alloc_new _ _)
      have hl2 : W2.heap[h + 5 + 1]? = some (.loop (rec .ready none)) := by rw [hW2, ← hs1]; exact heap_alloc2_new _ _ _
      refine (lines1_all (g := h + 1 + 1 + 1 + 1) (l := h + 5 + 1) (fun r W => LI w h (h + 6) t r W ∧ W.heap[h + 5 + 1]? = some (.loop (rec .ready none))) ?hm1 ?hy1 (s := t) (w := W2) ?hz1).mono ?_
      case hm1 =>
        rintro r W ⟨⟨m, s, k, q1, q2, q3, q4, q5, q6, _⟩, _⟩
        exact ⟨q5, by omega⟩
      case hz1 =>
        obtain ⟨n1, n2, n3, n4, n5⟩ := HNew.out
        exact ⟨⟨MkF.zero, zeroL, 0, Rel.zero, ⟨Nat.le_refl _, Nat.le_refl _, fun n hn => by simp [MkF.zero] at hn, Nat.le_refl _⟩, ⟨fun f hf => by simp [MkF.zero] at hf, fun l hl => by simp [MkF.zero] at hl, ⟨by decide, by decide⟩⟩, n1.out ho2, n3.kept ho2 (.inr (Nat.zero_le _)), HSz.out.1, by rw [HH.out.2.2.2.2.2.2]; have := HSz.out.2; omega, rfl, n4.trans ho2, n2.kept ho2 (.inr (Nat.zero_le _)), hd2⟩, hl2⟩
      case hy1 =>
        rintro r line rest W W3 ⟨⟨m, s, k, q1, q2, q3, q4, q5, q6, q7, q8, q9, q10, q11⟩, q12⟩ hrn hcut oW hbr
        have l3 : W3.heap[h + 5 + 1]? = some (.loop (rec .ready none)) := oW.heap q12 (.inr (by omega))
        refine round_any HR.out l3 rfl ?_
        gi_wp2
        refine ⟨l3, ?_⟩
        intro W4 o4 l4
        have hx34 : Fx (fun k => k = h + 5 + 1) W3 W4 := fx_one o4
        have hA3 := q4.other (fx_one oW) (by omega) (by omega) (by omega) (fun cs E hb => by
          have := hb.symm.trans q5
          cases this; unfold OwnT; decide)
        have hA4 := hA3.other hx34 (by omega) (by omega) (by omega) (fun cs E hb => by
          have := hb.symm.trans l3
          cases this)
        have oA : Out 0 0 w W4 := (q9.past oW (by have := HHs.out; omega)).past o4 (by have := HHs.out; omega)
        obtain ⟨x, htrim, hx⟩ := trim_dec line ⟨#[10]⟩ (by have := cuts_line hcut; omega)
        obtain ⟨hln, hxs, hrs⟩ := cuts_lns hcut hrn (hx.imp id fun q => q)
        obtain ⟨hG, hT, hY, hN, hch, hs, hNl⟩ := HH.out
        have HRd := hid_mk (read_any hA4 x (by omega) (hG.out oA) (hT.out oA) (q1.lim q2 (by omega)) hch (by rw [q1.line]; omega) (by have := HHs.out; exact ⟨by omega, by omega, by omega⟩))
        have HTr := hid_mk htrim
        have HOA := hid_mk oA
        have HQ := hid_mk (And.intro q1 (And.intro q2 (And.intro q3 (And.intro q7 (And.intro q8 hln)))))
        have HB4 : Hid (Bl W4 (h + 1 + 1 + 1 + 1) #[.string rest] 9 ∧ Bl W4 h #[.int .i64 0, .slice none 0 0, .slice none 0 0] 32 ∧ W4.heap[h + 5]? = some (.deferred (some [])) ∧ AL W4 (h + 1 + 1 + 1) (h + 1) (h + 1 + 1) s ∧ rest.size ≤ 1048576 ∧ W4.heap[h + 5 + 1]? = some (.loop (rec .busy none))) := hid_mk ⟨hbr.kept o4 (.inl (by omega)), (q10.kept oW (.inl (by omega))).kept o4 (.inl (by omega)), o4.heap (oW.heap q11 (.inr (by omega))) (.inl (by omega)), hA4, by omega, l4⟩
        clear q1 q2 q3 q4 q5 q6 q7 q8 q9 q10 q11 q12 hrn hcut oW hbr l3 o4 l4 hx34 hA3 hA4 oA htrim hx hln hxs hrs hG hT hY hN hch hs hNl
        gi_wp2_with (first
          | (refine ⟨trivial, rfl, ?_⟩; gi_at_call 34; refine (CallsIn.inRound _ (callsIn_wide.2 (HTr.out _))).mono ?_; rintro e w1 ⟨rfl, rfl⟩)
          | (refine ⟨trivial, rfl, ?_⟩; gi_at_call 33; refine (CallsIn.inRound _ (callsIn_wide.2 HRd.out)).mono ?_; rintro e w5 ⟨rfl, hfr, s', hrr, hal⟩))
        obtain ⟨q1, q2, q3, q7, q8, hln⟩ := HQ.out
        obtain ⟨k1, k2, k3, k4, k5, k6⟩ := HB4.out
        obtain ⟨m', p1, p2, p3, p4, p5⟩ := LI.step (w0 := w) (w := w) (w1 := w) (w2 := w) (h := h) (l := h) (r := r) (line := line) hln q1 q2 q3 q7 q8 hrr
        have j6 := hfr.obj k6 (by omega) (by omega) (by omega) (fun cs E f q => by cases q)
        have j3 := hfr.obj k3 (by omega) (by omega) (by omega) (fun cs E f q => by cases q)
        have j1 := k4.keep k1 (by decide) (by unfold OwnT; decide) hfr
        have j2 := k4.keep k2 (by decide) (by unfold OwnT; decide) hfr
        have oF := out_fr HOA.out hfr (by have := HHs.out; omega) (by have := HHs.out; omega) (by have := HHs.out; omega)
        gi_wp2
        refine ⟨j6, ?_⟩
        intro W6 o6 l6
        refine ⟨rfl, ⟨m', s', k + 1, p1, p2, p3, hal.other (fx_one o6) (by omega) (by omega) (by omega) (fun cs E hb => ?_), j1.kept o6 (.inl (by omega)), k5, p4, p5, oF.past o6 (by have := HHs.out; omega), j2.kept o6 (.inl (by omega)), o6.heap j3 (.inl (by omega))⟩, l6⟩
        have := hb.symm.trans j6
        cases this
      · rintro e W ⟨hv, r, hr, hI, hl⟩
        obtain ⟨m, s, k, q1, q2, q3, q4, q5, q6, q7, q8, q9, q10, q11⟩ := hI
        exact ⟨hv, q11, .inl ⟨⟨⟨_, hl⟩, r, hr, m, s, k, q1, q2, q3, q4, q5, q6, q7, q8, q9, q10, q11⟩, hl⟩⟩
    case done =>
      rintro W W' ⟨⟨L, hL⟩, r, hr, m, s, k, q1, q2, q3, q4, q5, q6, q7, q8, q9, q10, q11⟩ ho hd
      rw [hs1] at ho hd
      have hr0 : lnsF (bt r) = [] := by rw [hr]; rfl
      rw [hr0] at q8
      have q8' : m = MkF.run plO MkF.zero 1 (lnsF (bt t)) := q8
      have hbD : W.heap.size = W.heap.size := rfl
      have hA := q4.other (fx_one (g := h + 5 + 1) ho) (by omega) (by omega) (by omega) (fun cs E hb => by
        have := hb.symm.trans hL
        cases this)
      have oA : Out 0 0 w W' := q9.past ho (by have := HHs.out; omega)
      have hLim := q1.lim q2 (by omega)
      have HLv := hid_mk (leave_any hA (fun t x hx => (hLim.2.2.2.2 _ _ hx).1) (fun t => hLim.2.2.2.1 _))
      have HQ := hid_mk (And.intro q1 (And.intro q2 (And.intro q3 q8')))
      have HB := hid_mk (And.intro (q10.kept ho (.inl (by omega))) (And.intro hd hA))
      have HO := hid_mk oA
      rw [hs1]
      clear q1 q2 q3 q4 q5 q6 q7 q8 q8' q9 q10 q11 ho hd hA oA hLim hr hr0 hbD
      obtain ⟨hG, hT, hY, hN, hch, hs, hNl⟩ := HH.out
      obtain ⟨q1, q2, q3, q8⟩ := HQ.out
      obtain ⟨be, he, hlb⟩ := ends_eq m (fun u hu => (q1.rng u hu).2.1)
      have hasm : asmF plO wrE (bt t) = if m.ends.bad > 0 then ((0, [], []), m.ends.bad, 90) else if wrE m.ends.prog ≠ 0 then ((0, [], []), 0, wrE m.ends.prog) else (m.ends.prog, 0, 0) := by
        unfold asmF
        rw [if_neg (by rw [bt_len, hNl]; have := HSz.out; omega), ← q8]
      have hpr : m.ends.prog = (s.gl, s.tx, s.fs) := by rw [he]; unfold MkF.prog; rw [q1.gl, q1.tx, q1.fs]
      have hbad : m.ends.bad = be := by rw [he]
      rw [hpr, hbad] at hasm
      have hfm : ∀ f ∈ s.fs, MI f.2.2.2 := by rw [q1.fs]; exact fs_rsv q3.lab _ q3.fn
      have HA := hid_mk hasm
      have HE := hid_mk (And.intro q1 (And.intro hlb hfm))
      clear hG hT hY hN hch hs hNl q1 q2 q3 q8 he hlb hasm hpr hbad hfm
      by_cases hb0 : be = 0
      · subst hb0
        obtain ⟨er, her⟩ : ∃ er, wrE (s.gl, s.tx, s.fs) = er := ⟨_, rfl⟩
        have HEr := hid_mk her
        have HYy := hid_mk HH.out.2.2.1
        have arm2 : ∀ (w1 : World) (ta fa : Option Addr) (tc fc nt nf : Nat) (vs cs : List Value) (s2 : Low), Out 0 0 w w1 → AO w1 (h + 1 + 1 + 1) (h + 1) (h + 1 + 1) ta tc fa fc nt nf vs cs s2 → s2.gl = s.gl → s2.tx = s.tx → s2.fs = s.fs → Calls Tryz.prog 28 #[.agg #[.int .i64 s2.gl, .slice ta nt tc, .slice fa nf fc]] w1 fun e w' => ∃ ra K cap, e = .returned (.tuple #[.slice ra K cap, .int .i64 er]) ∧ Out 0 0 w1 w' := by
          intro w1 ta fa tc fc nt nf vs cs s2 o ho g1 g2 g3
          obtain ⟨⟨a1, a2, a3, e1, e2⟩, b1, b2, b3, b4, b5, b6, b7, b8⟩ := ho
          have hw := write_any (HYy.out.out o (.inr rfl)) (Nat.le_refl _) s2.gl s2.tx s2.fs ta fa nt tc nf fc e1.symm e2.symm (TL.tx (zs := []) b3 (by rw [List.append_nil]; exact b2)) (CL.fn (zs := []) b6 (by rw [List.append_nil]; exact b5)) (by rw [g3]; exact HE.out.2.2)
          rw [g1, g2, g3, HEr.out] at hw
          rw [g1]
          exact hw.mono fun e w' ⟨ra, K, cap, q1, q2, _, _⟩ => ⟨ra, K, cap, q1, q2⟩
        have HW2 := hid_mk arm2
        clear arm2 her
        by_cases hw0 : er = 0
        · subst hw0
          gi_wp2_with (first
            | (refine ⟨trivial, rfl, ?_⟩; gi_at_call 35; refine (callsIn_wide.2 HLv.out).mono ?_; rintro e w1 ⟨rfl, ⟨b, hlb, hal⟩, hfr⟩; obtain rfl : b = 0 := (least_of HE.out.1 hlb).one HE.out.2.1; obtain ⟨ta, tc, fa, fc, nt, nf, vs, cs, hao⟩ := hal.ao; have c7 : w1.cell? ⟨h + 1 + 1 + 1, 7, none⟩ = some (.int .i64 0) := hao.2.1.cell rfl; have c0 : w1.cell? ⟨h + 1 + 1 + 1, 0, none⟩ = some (.int .i64 s.gl) := hao.2.1.cell rfl; have c1 : w1.cell? ⟨h + 1 + 1 + 1, 1, none⟩ = some (.slice ta nt tc) := hao.2.1.cell rfl; have c2 : w1.cell? ⟨h + 1 + 1 + 1, 2, none⟩ = some (.slice fa nf fc) := hao.2.1.cell rfl; have o1 := out_fr HO.out hfr (by have := HHs.out; omega) (by have := HHs.out; omega) (by have := HHs.out; omega); have bb := HB.out.2.2.keep HB.out.1 (by decide) (by unfold OwnT; decide) hfr; have dd := hfr.obj HB.out.2.1 (by omega) (by omega) (by omega) (fun cs E f q => by cases q); clear hfr hlb hal)
            | (refine ⟨trivial, rfl, ?_⟩; gi_at_call 28; refine (callsIn_wide.2 (HW2.out _ _ _ _ _ _ _ _ _ _ o1 hao rfl rfl rfl)).mono ?_; rintro e w3 ⟨ra, K, cap, rfl, o3⟩; replace c0 := o3.cell c0 (.inr (Nat.zero_le _)); replace c1 := o3.cell c1 (.inr (Nat.zero_le _)); replace c2 := o3.cell c2 (.inr (Nat.zero_le _)); replace bb := bb.kept o3 (.inr (Nat.zero_le _)); have y0 := bb.cell (i := 0) rfl; have y1 := bb.cell (i := 1) rfl; have y2 := bb.cell (i := 2) rfl; have z0 := bb.frozen 0; have z1 := bb.frozen 1; have z2 := bb.frozen 2))
          have hz : ∀ cs E, ¬ Bl w3 (h + 5) cs E := fun cs E hb => by
            have := hb.symm.trans (o3.heap dd (.inr (Nat.zero_le _)))
            cases this
          refine ⟨by simp, .inl ⟨_, _, rfl, run_takeDeferred (asm_dfr2 (o3.heap dd (.inr (Nat.zero_le _)))), ?_⟩⟩
          refine ⟨.tuple #[.agg #[.int .i64 s.gl, .slice ta nt tc, .slice fa nf fc], .int .i64 0, .int .i64 0], res_one Tryz.results19 rfl (load_prog (asm_zero2 bb _)), ?_⟩
          refine ⟨asm_out2 (o1.trans o3) HHs.out _ _ _ _, .agg #[.int .i64 s.gl, .slice ta nt tc, .slice fa nf fc], ?_, ?_⟩
          · rw [HA.out, if_neg (by omega), if_neg (by rw [HEr.out]; simp)]
            exact prat_of (h := h) (D := h + 5) (p := h + 1 + 1 + 1) (lo := w.heap.size) (s := { s with L := fun _ => none, U := fun _ => [], bad := 0 }) (hao.out o3) (asm_fx _ _ _ _) (by have := HHs.out; omega) (by omega) hz
          · rw [HA.out, if_neg (by omega), if_neg (by rw [HEr.out]; simp)]; rfl
        · have nb2 : (er != 0) = true := by simp only [bne_iff_ne, ne_eq]; exact hw0
          gi_wp2_with (first
            | (refine ⟨trivial, rfl, ?_⟩; gi_at_call 35; refine (callsIn_wide.2 HLv.out).mono ?_; rintro e w1 ⟨rfl, ⟨b, hlb, hal⟩, hfr⟩; obtain rfl : b = 0 := (least_of HE.out.1 hlb).one HE.out.2.1; obtain ⟨ta, tc, fa, fc, nt, nf, vs, cs, hao⟩ := hal.ao; have c7 : w1.cell? ⟨h + 1 + 1 + 1, 7, none⟩ = some (.int .i64 0) := hao.2.1.cell rfl; have c0 : w1.cell? ⟨h + 1 + 1 + 1, 0, none⟩ = some (.int .i64 s.gl) := hao.2.1.cell rfl; have c1 : w1.cell? ⟨h + 1 + 1 + 1, 1, none⟩ = some (.slice ta nt tc) := hao.2.1.cell rfl; have c2 : w1.cell? ⟨h + 1 + 1 + 1, 2, none⟩ = some (.slice fa nf fc) := hao.2.1.cell rfl; have o1 := out_fr HO.out hfr (by have := HHs.out; omega) (by have := HHs.out; omega) (by have := HHs.out; omega); have bb := HB.out.2.2.keep HB.out.1 (by decide) (by unfold OwnT; decide) hfr; have dd := hfr.obj HB.out.2.1 (by omega) (by omega) (by omega) (fun cs E f q => by cases q); clear hfr hlb hal)
            | (refine ⟨trivial, rfl, ?_⟩; gi_at_call 28; refine (callsIn_wide.2 (HW2.out _ _ _ _ _ _ _ _ _ _ o1 hao rfl rfl rfl)).mono ?_; rintro e w3 ⟨ra, K, cap, rfl, o3⟩; replace c0 := o3.cell c0 (.inr (Nat.zero_le _)); replace c1 := o3.cell c1 (.inr (Nat.zero_le _)); replace c2 := o3.cell c2 (.inr (Nat.zero_le _)); replace bb := bb.kept o3 (.inr (Nat.zero_le _)); have y0 := bb.cell (i := 0) rfl; have y1 := bb.cell (i := 1) rfl; have y2 := bb.cell (i := 2) rfl; have z0 := bb.frozen 0; have z1 := bb.frozen 1; have z2 := bb.frozen 2))
          have hz : ∀ cs E, ¬ Bl w3 (h + 5) cs E := fun cs E hb => by
            have := hb.symm.trans (o3.heap dd (.inr (Nat.zero_le _)))
            cases this
          refine ⟨by simp, .inl ⟨_, _, rfl, run_takeDeferred (asm_dfr2 (o3.heap dd (.inr (Nat.zero_le _)))), ?_⟩⟩
          refine ⟨.tuple #[.agg #[.int .i64 0, .slice none 0 0, .slice none 0 0], .int .i64 0, .int .i64 er], res_one Tryz.results19 rfl (load_prog (asm_zero2 bb _)), ?_⟩
          refine ⟨asm_out2 (o1.trans o3) HHs.out _ _ _ _, .agg #[.int .i64 0, .slice none 0 0, .slice none 0 0], ?_, ?_⟩
          · rw [HA.out, if_neg (by omega), if_pos (by rw [HEr.out]; exact hw0)]
            exact prat_nil _ _
          · rw [HA.out, if_neg (by omega), if_pos (by rw [HEr.out]; exact hw0), HEr.out]; rfl
      · have nb : ((be : Int) != 0) = true := by simp only [bne_iff_ne, ne_eq]; omega
        gi_wp2_with (first
          | (refine ⟨trivial, rfl, ?_⟩; gi_at_call 35; refine (callsIn_wide.2 HLv.out).mono ?_; rintro e w1 ⟨rfl, ⟨b, hlb, hal⟩, hfr⟩; obtain rfl : b = be := (least_of HE.out.1 hlb).one HE.out.2.1; obtain ⟨ta, tc, fa, fc, nt, nf, vs, cs, hao⟩ := hal.ao; have c7 : w1.cell? ⟨h + 1 + 1 + 1, 7, none⟩ = some (.int .i64 (b : Int)) := hao.2.1.cell rfl))
        have o1 := out_fr HO.out hfr (by have := HHs.out; omega) (by have := HHs.out; omega) (by have := HHs.out; omega)
        have bb := HB.out.2.2.keep HB.out.1 (by decide) (by unfold OwnT; decide) hfr
        have dd := hfr.obj HB.out.2.1 (by omega) (by omega) (by omega) (fun cs E f q => by cases q)
        have c0 := bb.cell (i := 0) rfl
        have c1 := bb.cell (i := 1) rfl
        have c2 := bb.cell (i := 2) rfl
        have z0 := bb.frozen 0
        have z1 := bb.frozen 1
        have z2 := bb.frozen 2
        have HZ := hid_mk (And.intro o1 (And.intro bb dd))
        have hmx : Tryz.prog.follows .mixedOrders = true := by kernel_rfl
        clear o1 bb dd hlb hal hfr hao nb
        refine wpIn_mono ?_ (fun e a w h => qp h)
        gi_region_with_o (fail)
        all_goals (
          show QP _ _ _ _
          unfold QP
          gi_wp2
          refine ⟨by simp, .inl ⟨_, _, rfl, run_takeDeferred (asm_dfr HZ.out.2.2), ?_⟩⟩
          refine ⟨.tuple #[.agg #[.int .i64 0, .slice none 0 0, .slice none 0 0], .int .i64 (b : Int), .int .i64 90], res_one Tryz.results19 rfl (load_prog (asm_zero HZ.out.2.1 _)), ?_⟩
          refine ⟨asm_out HZ.out.1 HHs.out _ _ _ _, .agg #[.int .i64 0, .slice none 0 0, .slice none 0 0], ?_, ?_⟩
          · rw [HA.out, if_pos (by omega)]; exact prat_nil _ _
          · rw [HA.out, if_pos (by omega)])
end Go.Proofs.YtcnjlbjpeklgkaaGreatDoor
