/- ShowLists: the texts; the lists that grow -/
import Derived.Test.YtmfnkhonghemeaaDoorIjb
namespace Go.Proofs.YtmfnkhonghemeaaDoor
open Go.RowKit
set_option linter.unusedVariables false
set_option linter.unusedSimpArgs false

/-- bytes as a string -/
def bS (l : List UInt8) : ByteArray := ⟨l.toArray⟩
theorem bS_size (l : List UInt8) : (bS l).size = l.length := rfl
theorem bS_add (a b : List UInt8) (h : a.length + b.length ≤ 100000) (W : World) : (Op.stringOp .add (bS a) (bS b)).run Tryd.prog W = .ok (.string (bS (a ++ b))) W := by
  have e : bS (a ++ b) = bS a ++ bS b := by
    have hh : ∀ a b : ByteArray, a.data = b.data → a = b := fun a b h => by cases a; cases b; simpa using h
    apply hh
    rw [ByteArray.data_append]
    simp [bS]
  have h' : ¬ ((9223372036854775807 : Int) < ((bS a).size : Int) + ((bS b).size : Int)) := by rw [bS_size, bS_size]; omega
  rw [e]
  simp [Op.stringOp, h']
theorem conv_u8 (W : World) (b : Nat) : (Go.convert 35 9 (.slice (some ⟨W.heap.size, 0, none⟩) 1 1)).run Tryd.prog (W.alloc (.cells #[.int .u8 b] 5)) = .ok (.string ⟨#[UInt8.ofNat b]⟩) (W.alloc (.cells #[.int .u8 b] 5)) := by
  have := conv1 (c := 1) ((Bl.new W #[.int .u8 b] 5).cell (i := 0) rfl)
  simpa using this
/-- a digit's byte -/
def uB (i : Nat) : UInt8 := UInt8.ofNat (48 + i % 10)
def sepd (i : Nat) : List UInt8 := if 1 < i then [32, uB i] else [uB i]
def bdy : Nat → List UInt8
  | 0 => []
  | j + 1 => bdy j ++ sepd (j + 1)
def cL : Nat → List UInt8
  | 0 => []
  | j + 1 => cL j ++ [35, 38]
theorem bdy_len : ∀ j, (bdy j).length ≤ 2 * j
  | 0 => by simp [bdy]
  | j + 1 => by have := bdy_len j; simp only [bdy, List.length_append]; unfold sepd; split <;> simp <;> omega
theorem cL_len : ∀ j, (cL j).length = 2 * j
  | 0 => rfl
  | j + 1 => by have := cL_len j; simp only [cL, List.length_append]; simp; omega
def fl (xs : List ByteArray) : List UInt8 := (xs.map (·.data.toList)).flatten
theorem fl_append (a b : List ByteArray) : fl (a ++ b) = fl a ++ fl b := by simp [fl]
theorem dgS_data (j : Nat) : (dgS j).data.toList = [uB j] := by
  have key : ∀ x : Fin 10, (dgS x.val).data.toList = [uB x.val] := by decide +kernel
  have := key ⟨j % 10, Nat.mod_lt _ (by decide)⟩
  simpa [dgS, uB] using this
def hdrL (rg : Bool) : List UInt8 := if rg = true then [35, 48, 61, 40] else [40]
theorem fl_pc (rg : Bool) : ∀ j, fl (PcL rg (j + 1)) ++ [uB (j + 1)] = hdrL rg ++ bdy (j + 1)
  | 0 => by cases rg <;> rfl
  | j + 1 => by
    have ih := fl_pc rg j
    have e : PcL rg (j + 1 + 1) = PcL rg (j + 1) ++ [dgS (j + 1)] ++ [⟨#[32]⟩] := rfl
    have e1 : fl [dgS (j + 1)] = [uB (j + 1)] := by simp [fl, dgS_data]
    have e2 : fl [(⟨#[32]⟩ : ByteArray)] = [32] := rfl
    have e3 : bdy (j + 1 + 1) = bdy (j + 1) ++ sepd (j + 1 + 1) := rfl
    have e4 : sepd (j + 1 + 1) = [32, uB (j + 1 + 1)] := by unfold sepd; rw [if_pos (by omega)]
    rw [e, fl_append, fl_append, e1, e2, e3, e4, ih]
    simp
theorem fl_rep : ∀ n, fl (List.replicate n (opS 2)) = cL n
  | 0 => rfl
  | n + 1 => by
    rw [List.replicate_succ', fl_append, fl_rep n]
    rfl
def bigS : ByteArray := ⟨#[35, 60, 108, 97, 114, 103, 101, 62]⟩
theorem txt_list {n : Nat} (hn : 1 ≤ n) : txtS 1 n false = if 2 * n + 1 ≤ 500 then bS ([40] ++ bdy n ++ [41]) else bigS := by
  obtain ⟨j, rfl⟩ : ∃ j, n = j + 1 := ⟨n - 1, by omega⟩
  have h := fl_pc false j
  have e : fl (finP 1 (j + 1) false) = [40] ++ bdy (j + 1) ++ [41] := by
    unfold finP
    rw [if_pos rfl, if_neg (by decide), fl_append, fl_append]
    have e1 : fl [dgS (j + 1)] = [uB (j + 1)] := by simp [fl, dgS_data]
    rw [e1, h]; rfl
  unfold txtS
  show (if 2 * (j + 1) + 1 ≤ 500 then (⟨(fl (finP 1 (j + 1) false)).toArray⟩ : ByteArray) else _) = _
  rw [e]; rfl
theorem txt_ring {n : Nat} (hn : 1 ≤ n) : txtS 1 n true = if 2 * n + 1 ≤ 500 then bS ([35, 48, 61, 40] ++ bdy n ++ [32, 46, 32, 35, 48, 35, 41]) else bigS := by
  obtain ⟨j, rfl⟩ : ∃ j, n = j + 1 := ⟨n - 1, by omega⟩
  have h := fl_pc true j
  have e : fl (finP 1 (j + 1) true) = [35, 48, 61, 40] ++ bdy (j + 1) ++ [32, 46, 32, 35, 48, 35, 41] := by
    unfold finP
    rw [if_pos rfl, if_pos rfl, fl_append, fl_append, fl_append, fl_append]
    have e1 : fl [dgS (j + 1)] = [uB (j + 1)] := by simp [fl, dgS_data]
    rw [e1, h]
    simp [hdrL, fl]
  unfold txtS
  show (if 2 * (j + 1) + 1 ≤ 500 then (⟨(fl (finP 1 (j + 1) true)).toArray⟩ : ByteArray) else _) = _
  rw [e]; rfl
theorem txt_boxes {n : Nat} (hn : 1 ≤ n) : txtS 2 n false = if n + 1 ≤ 500 then bS (cL n ++ [40, 41]) else bigS := by
  have e : fl (finP 2 n false) = cL n ++ [40, 41] := by
    unfold finP
    rw [if_neg (by decide), fl_append, fl_rep]; rfl
  unfold txtS
  show (if 1 * n + 1 ≤ 500 then (⟨(fl (finP 2 n false)).toArray⟩ : ByteArray) else _) = _
  rw [e, Nat.one_mul]; rfl
/-- the cells of a node -/
def ndC5 (k : Int) (m i F : Nat) : List Value := [.int .i64 ((i : Int) + 1), .int .i64 k, .slice none 0 0, .slice (some ⟨F, 0, none⟩) m m, .slice none 0 0]
def ndL5 (k : Int) (m : Nat) : Nat → List Nat → List Value
  | _, [] => []
  | i, F :: l => ndC5 k m i F ++ ndL5 k m (i + 1) l
theorem ndL5_snoc (k : Int) (m F : Nat) : ∀ (l : List Nat) (i : Nat), ndL5 k m i (l ++ [F]) = ndL5 k m i l ++ ndC5 k m (i + l.length) F
  | [], i => by simp [ndL5]
  | a :: l, i => by
    show ndC5 k m i a ++ ndL5 k m (i + 1) (l ++ [F]) = ndC5 k m i a ++ ndL5 k m (i + 1) l ++ _
    rw [ndL5_snoc k m F l (i + 1), List.append_assoc, List.length_cons, show i + 1 + l.length = i + (l.length + 1) from by omega]
theorem ndL5_get (k : Int) (m : Nat) : ∀ (l : List Nat) (i j F c : Nat), l[j]? = some F → c < 5 → (ndL5 k m i l)[j * 5 + c]? = (ndC5 k m (i + j) F)[c]? := by
  intro l
  induction l with
  | nil => intro i j F c h; simp at h
  | cons a l ih =>
    intro i j F c h hc
    have e : ndL5 k m i (a :: l) = ndC5 k m i a ++ ndL5 k m (i + 1) l := rfl
    have hl : (ndC5 k m i a).length = 5 := rfl
    cases j with
    | zero =>
      simp at h; subst h
      rw [e, List.getElem?_append_left (by rw [hl]; omega)]; simp
    | succ j =>
      rw [e, List.getElem?_append_right (by rw [hl]; omega), hl, show (j + 1) * 5 + c - 5 = j * 5 + c from by omega, ih (i + 1) j F c (by simpa using h) hc, show i + 1 + j = i + (j + 1) from by omega]
/-- a graph that grows -/
def NL (w : World) (B b : Nat) (k : Int) (n : Nat) (rg : Bool) (j : Nat) (S : Nat → Prop) (ta : Option Addr) (cap : Nat) : Prop := ∃ Fs : List Nat, Bl w b #[.slice ta j cap, .slice none 0 0] 26 ∧ w.ownsRow B 34 5 (.slice ta j cap) j (ndL5 k (arV k) 0 Fs) ∧ Fs.length = j ∧
  (∀ (i F : Nat), Fs[i]? = some F → S F ∧ Bl w F (flat (hdV k n rg (i + 1))).toArray 28) ∧ S b ∧ (∀ g, (Value.slice ta j cap).ownBlock = some g → S g) ∧ (∀ x, S x → B ≤ x ∧ x < w.heap.size)
section
variable {w w' V0 V2 V4 : World} {B b n j cap cap' F g' : Nat} {k : Int} {rg : Bool} {S S' : Nat → Prop} {ta : Option Addr}
theorem NL.fx (h : NL w B b k n rg j S ta cap) (x : Fx S' w w') (hS : ∀ x, S x → ¬ S' x) : NL w' B b k n rg j S ta cap := by
  obtain ⟨Fs, h1, h2, h3, h4, h5, h6, h7⟩ := h
  refine ⟨Fs, h1.fx x (hS _ h5), own_fx h2 x (fun g e => hS _ (h6 g e)), h3, fun i F e => ⟨(h4 i F e).1, (h4 i F e).2.fx x (hS _ (h4 i F e).1)⟩, h5, h6, fun y hy => ⟨(h7 y hy).1, Nat.lt_of_lt_of_le (h7 y hy).2 x.size⟩⟩
theorem info_node : (Tryd.prog.info? 34).map (fun i => (i.zero, i.size, i.bytes)) = some (some (.agg #[.int .i64 0, .int .i64 0, .slice none 0 0, .slice none 0 0, .slice none 0 0]), 5, 88) := by kernel_rfl
theorem NL.cell0 (h : NL w B b k n rg j S ta cap) : w.cell? ⟨b, 0, none⟩ = some (.slice ta j cap) := by
  obtain ⟨Fs, h1, _⟩ := h
  exact h1.cell (i := 0) rfl
theorem NL.cell1 (h : NL w B b k n rg j S ta cap) : w.cell? ⟨b, 1, none⟩ = some (.slice none 0 0) := by
  obtain ⟨Fs, h1, _⟩ := h
  exact h1.cell (i := 1) rfl
theorem NL.dom (h : NL w B b k n rg j S ta cap) : ∀ x, S x → B ≤ x ∧ x < w.heap.size := by
  obtain ⟨Fs, _, _, _, _, _, _, h⟩ := h
  exact h
theorem NL.out (h : NL w B b k n rg j S ta cap) (o : Out 0 0 w w') : NL w' B b k n rg j S ta cap :=
  h.fx (S' := fun _ => False) (Fx.of_out o (fun b h1 h2 _ => by omega)) (fun _ _ h => h)
/-- one node more: its append -/
theorem NL.app (h : NL V0 B b k n rg j S ta cap) (x02 : Out 0 0 V0 V2) (hB : B ≤ V0.heap.size) (hj : j ≤ 600) (hF : Bl V2 F (flat (hdV k n rg (j + 1))).toArray 28) (hF0 : V0.heap.size ≤ F) :
    ∃ (g' cap' : Nat) (V4 : World), (Builtin.append_ #[23, 23] 23 #[.slice ta j cap, .slice (some ⟨V2.heap.size, 0, none⟩) 1 1]).run Tryd.prog (V2.alloc (.cells (ndC5 k (arV k) j F).toArray 34)) = .ok (.slice (some ⟨g', 0, none⟩) (j + 1) cap') V4 ∧
      NL (V4.setCell ⟨b, 0, none⟩ (.slice (some ⟨g', 0, none⟩) (j + 1) cap')) B b k n rg (j + 1) (fun x => S x ∨ (V0.heap.size ≤ x ∧ x < V4.heap.size)) (some ⟨g', 0, none⟩) cap' ∧ Fx S V0 (V4.setCell ⟨b, 0, none⟩ (.slice (some ⟨g', 0, none⟩) (j + 1) cap')) ∧
      V4.cell? ⟨b, 0, none⟩ = some (.slice ta j cap) ∧ V4.frozen? ⟨b, 0, none⟩ = false ∧ Fx S V0 V4 := by
  obtain ⟨Fs, h1, h2, h3, h4, h5, h6, h7⟩ := h
  have o3 : Out 0 0 V0 (V2.alloc (.cells (ndC5 k (arV k) j F).toArray 34)) := x02.alloc _
  have x3 : Fx (fun _ => False) V0 (V2.alloc (.cells (ndC5 k (arV k) j F).toArray 34)) := Fx.of_out o3 (fun b h1 h2 _ => by omega)
  obtain ⟨g', cap', V4, hrun, hown, hg, x4⟩ := app_own (c := 1) Tryd.underlying23 info_node rfl (by decide) (own_fx h2 x3 (fun _ _ => id)) (Nat.le_trans hB o3.size) (Bl.new V2 (ndC5 k (arV k) j F).toArray 34) rfl (by intro u hu; simp [ndC5] at hu; rcases hu with rfl | rfl | rfl | rfl | rfl <;> rfl) (by omega) (by decide)
  have hgV : g' < V4.heap.size := (own_ge hown rfl).2
  have hgB : B ≤ g' := (own_ge hown rfl).1
  have hnb : ∀ y T' cs, Bl V0 y cs T' → (∀ g, (Value.slice ta j cap).ownBlock = some g → g ≠ y) → Bl V4 y cs T' := fun y T' cs hy hn => (hy.fx x3 id).fx x4 (fun e => hn _ e rfl)
  have row : ∀ g, (Value.slice ta j cap).ownBlock = some g → ∃ cs, Bl V0 g cs 34 := fun g e => by
    obtain ⟨_, ⟨e2, _⟩ | ⟨g2, c2, cur2, e2, _, b2, _⟩⟩ := h2
    · rw [e2] at e; simp [Value.ownBlock] at e
    · rw [e2] at e; simp [Value.ownBlock] at e; subst e; exact ⟨_, b2⟩
  have tne : ∀ y T' cs, Bl V0 y cs T' → T' ≠ 34 → ∀ g, (Value.slice ta j cap).ownBlock = some g → g ≠ y := fun y T' cs hy hT g e e2 => by
    obtain ⟨cs2, b2⟩ := row g e
    subst e2
    have := b2.symm.trans hy
    simp at this
    exact hT this.2.symm
  have hb4 : Bl V4 b #[.slice ta j cap, .slice none 0 0] 26 := hnb _ _ _ h1 (tne _ _ _ h1 (by decide))
  have hbg : b ≠ g' := fun e => by
    obtain ⟨_, ⟨e2, _⟩ | ⟨g2, c2, cur2, e2, _, b2, _⟩⟩ := hown
    · simp at e2
    · simp at e2
      obtain ⟨rfl, rfl⟩ := e2
      subst e
      have := b2.symm.trans hb4
      simp at this
  have oS : Out b (b + 1) V4 (V4.setCell ⟨b, 0, none⟩ (.slice (some ⟨g', 0, none⟩) (j + 1) cap')) := (Out.refl _ _ _).setCell (p := ⟨b, 0, none⟩) (.inl ⟨Nat.le_refl _, Nat.lt_succ_self _⟩) _
  have xS : Fx (fun y => y = b) V4 (V4.setCell ⟨b, 0, none⟩ (.slice (some ⟨g', 0, none⟩) (j + 1) cap')) := Fx.of_out oS (fun b h1 h2 _ => by omega)
  have x04 : Fx S V0 V4 := (x3.wide (fun _ _ h => h.elim)).trans (x4.wide (fun y _ e => h6 y e))
  have x05 : Fx S V0 (V4.setCell ⟨b, 0, none⟩ (.slice (some ⟨g', 0, none⟩) (j + 1) cap')) := x04.trans (xS.wide (fun y _ e => e ▸ h5))
  refine ⟨g', cap', V4, hrun, ⟨Fs ++ [F], hb4.set 0 _, ?_, by simp [h3], fun i F' e => ?_, .inl h5, fun g e => ?_, fun y hy => ?_⟩, x05, hb4.cell (i := 0) rfl, hb4.frozen 0, x04⟩
  · rw [ndL5_snoc, Nat.zero_add, h3]
    exact own_fx hown xS (fun g e => by simp [Value.ownBlock] at e; subst e; exact fun e => hbg e.symm)
  · have hFn : Bl V2 F (flat (hdV k n rg (j + 1))).toArray 28 := hF
    have old : ∀ y cs, Bl V2 y cs 28 → (∀ g, (Value.slice ta j cap).ownBlock = some g → g ≠ y) → y ≠ b → Bl (V4.setCell ⟨b, 0, none⟩ (.slice (some ⟨g', 0, none⟩) (j + 1) cap')) y cs 28 := fun y cs hy hn hb => ((hy.alloc _).fx x4 (fun e => hn _ e rfl)).fx xS hb
    by_cases hi : i < Fs.length
    · rw [List.getElem?_append_left hi] at e
      obtain ⟨a1, a2⟩ := h4 i F' e
      refine ⟨.inl a1, old _ _ (a2.kept x02 (.inr (Nat.zero_le _))) (tne _ _ _ a2 (by decide)) (fun e => ?_)⟩
      subst e
      have := a2.symm.trans h1
      simp at this
    · have hi2 : i = Fs.length := by have := (List.getElem?_eq_some_iff.1 e).1; simp at this; omega
      subst hi2
      simp at e; subst e
      rw [h3]
      refine ⟨.inr ⟨hF0, Nat.lt_of_lt_of_le hFn.lt (Nat.le_trans (by rw [size_alloc]; exact Nat.le_succ _) x4.size)⟩, old _ _ hFn (fun g e e2 => ?_) (fun e => ?_)⟩
      · have := (own_ge h2 e).2; omega
      · have := h1.lt; omega
  · simp [Value.ownBlock] at e; subst e
    rcases hg with h | h
    · exact .inr ⟨Nat.le_trans o3.size h, hgV⟩
    · exact .inl (h6 _ h)
  · rw [size_set]
    rcases hy with h | h
    · exact ⟨(h7 y h).1, Nat.lt_of_lt_of_le (h7 y h).2 x04.size⟩
    · exact ⟨Nat.le_trans hB h.1, h.2⟩
/-- a graph that has all its nodes -/
theorem NL.whole (h : NL w B b k n rg n S ta cap) (hn : 1 ≤ n) : ∃ L, ta = some ⟨L, 0, none⟩ ∧ GrC w L k n rg := by
  obtain ⟨Fs, h1, h2, h3, h4, h5, h6, h7⟩ := h
  obtain ⟨L, cur, rfl, hL, hB, hcap, hcs, htk⟩ := own_row h2 hn (by decide)
  refine ⟨L, rfl, cur, fun i => Fs.getD i 0, hB, fun i hi => ?_⟩
  have hl : i < Fs.length := by omega
  have hFi : Fs[i]? = some (Fs.getD i 0) := by simp [List.getD, List.getElem?_eq_getElem hl]
  have key : ∀ c, c < 5 → cur[i * 5 + c]? = (ndC5 k (arV k) i (Fs.getD i 0))[c]? := fun c hc => by
    have := ndL5_get k (arV k) Fs 0 i _ c hFi hc
    rw [Nat.zero_add, ← htk, List.getElem?_take, if_pos (by omega)] at this
    simpa using this
  exact ⟨key 0 (by decide), key 1 (by decide), key 2 (by decide), key 3 (by decide), key 4 (by decide), (h4 i _ hFi).2⟩
end
theorem app_runs (w : World) {o : Oper} {a : Act} {K : Act → World → Prop} {Q : Exit → Act → World → Prop} (d s : Operand) (t t' : TypeId)
    (ho : o.op = .call { callee := .builtin .append, args := #[d, s], argTypes := #[t, t'] }) (v u : Value) (hd : a.eval d = v) (hs : a.eval s = u) {v' : Value} {w' : World}
    (hr : (Builtin.append_ #[t, t'] o.type #[v, u]).run Tryd.prog w = .ok v' w') (h : K (a.put o.dst v') w') : o.wp Tryd.prog a w K Q := by
  unfold Oper.wp execOp
  simp only [ho, resolve, invoke, builtin, Sem.run_bind, Sem.run_pure, Result.andThen_ok, List.map_toArray, List.map_cons, List.map_nil, hd, hs, hr]
  exact h
/-- the three graphs of ShowLists -/
def LSt (W w : World) (B A N j : Nat) (SA SB SC : Nat → Prop) (ta1 : Option Addr) (c1 : Nat) (ta2 : Option Addr) (c2 : Nat) (ta3 : Option Addr) (c3 : Nat) : Prop :=
  NL w B A 1 N false j SA ta1 c1 ∧ NL w B (A + 1) 1 N true j SB ta2 c2 ∧ NL w B (A + 1 + 1) 2 N false j SC ta3 c3 ∧ (∀ x, SA x → ¬ SB x) ∧ (∀ x, SA x → ¬ SC x) ∧ (∀ x, SB x → ¬ SC x) ∧ Out 0 0 W w
end Go.Proofs.YtmfnkhonghemeaaDoor
