/- the document's own code: leaves, numbers -/
import Derived.Test.YtkghabmgofgclaaDoorUp
namespace Go.Proofs.YtkghabmgofgclaaDoor
open Go.RowKit
set_option linter.unusedVariables false
set_option linter.unusedSimpArgs false

/-- the row of bytes that grows: what a step leaves -/
def RS (w : World) (o : Option Nat) (w' : World) (o' : Option Nat) : Prop := Fx (fun k => o = some k) w w' ∧ (o' = o ∨ ∃ g, o' = some g ∧ w.heap.size ≤ g)
theorem RS.trans {a b c : World} {o p q : Option Nat} (h : RS a o b p) (g : RS b p c q) : RS a o c q := by
  obtain ⟨h1, h2⟩ := h
  obtain ⟨g1, g2⟩ := g
  refine ⟨h1.then g1 fun k hk e => ?_, ?_⟩
  · rcases h2 with r | ⟨x, r, hx⟩
    · rw [← r]; exact e
    · rw [r] at e; cases e; omega
  · rcases g2 with r | ⟨x, r, hx⟩
    · rw [r]
      rcases h2 with s | ⟨y, s, hy⟩
      · exact .inl s
      · exact .inr ⟨y, s, hy⟩
    · exact .inr ⟨x, r, Nat.le_trans h1.size hx⟩
theorem RS.out {a w w' : World} {o o' : Option Nat} (h : RS w o w' o') (g : Out 0 0 a w) (ho : ∀ k, o = some k → a.heap.size ≤ k) : Out 0 0 a w' :=
  ⟨h.1.1.trans g.1, h.1.2.1.trans g.2.1, h.1.2.2.1.trans g.2.2.1, Nat.le_trans g.size h.1.size, fun k h1 h2 => (h.1.2.2.2.2 k (Nat.lt_of_lt_of_le h1 g.size) (fun e => by have := ho k e; omega)).trans (g.block h1 h2)⟩
theorem RS.of_out {w w' : World} (o : Option Nat) (h : Out 0 0 w w') : RS w o w' o := ⟨Fx.of_out h, .inl rfl⟩
/-- a row of bytes of one's own; its block -/
def BO (w : World) (base : Nat) (a : Option Addr) (K c : Nat) (bs : List Int) : Prop := bs.length = K ∧ w.ownsRow base 5 1 (.slice a K c) K (bvs bs)
def ob (a : Option Addr) (K c : Nat) : Option Nat := (Value.slice a K c).ownBlock
theorem BO.kept {w w' : World} {base K c : Nat} {a : Option Addr} {bs : List Int} (h : BO w base a K c bs) (o : Out 0 0 w w') : BO w' base a K c bs := ⟨h.1, own_fx (S := fun _ => False) h.2 (Fx.of_out o) (fun _ _ z => z)⟩
theorem BO.ge {w : World} {base K c : Nat} {a : Option Addr} {bs : List Int} (h : BO w base a K c bs) : ∀ k, ob a K c = some k → base ≤ k ∧ k < w.heap.size := fun k hk => own_ge h.2 hk
theorem BO.nil (w : World) (base : Nat) : BO w base none 0 0 [] := ⟨rfl, World.ownsRow_nil _ _ _ 1⟩
theorem app_run2 {w : World} {base K n cap c : Nat} {ta ra : Option Addr} {bs x : List Int} (ty : TypeId) (hown : w.ownsRow base 5 1 (.slice ta K cap) K (bvs bs)) (hbs : base ≤ w.heap.size) (hx : BytesAt w ra x) (hn : x.length = n) (hK : K ≤ 10000000) (hn2 : n ≤ 1000000) :
    ∃ a' cap' w', (Builtin.append_ #[33, 33] ty #[.slice ta K cap, .slice ra n c]).run Tryd.prog w = .ok (.slice a' (K + n) cap') w' ∧ w'.ownsRow base 5 1 (.slice a' (K + n) cap') (K + n) (bvs (bs ++ x)) ∧ Fx (fun k => (Value.slice ta K cap).ownBlock = some k) w w' ∧
      ((Value.slice a' (K + n) cap').ownBlock = (Value.slice ta K cap).ownBlock ∨ ∃ g, (Value.slice a' (K + n) cap').ownBlock = some g ∧ w.heap.size ≤ g) := by
  rcases hx.2 with rfl | ⟨g, off, rfl, hc⟩
  · have : n = 0 := hn.symm
    subst this
    refine ⟨ta, cap, w, run_none w ty ta ra K cap c ?_, by rw [List.append_nil]; exact hown, Fx.refl _ _, .inl rfl⟩
    rcases hown.2 with ⟨h1, h2⟩ | ⟨g, c2, cur, h1, _, _, h4, _⟩
    · omega
    · cases h1; exact h4
  · by_cases h0 : n = 0
    · subst h0
      have : x = [] := List.eq_nil_of_length_eq_zero hn
      subst this
      refine ⟨ta, cap, w, run_none w ty ta _ K cap c ?_, by rw [List.append_nil]; exact hown, Fx.refl _ _, .inl rfl⟩
      rcases hown.2 with ⟨h1, h2⟩ | ⟨g, c2, cur, h1, _, _, h4, _⟩
      · omega
      · cases h1; exact h4
    · obtain ⟨i0, hi0, hz0, hz1, hz2⟩ := info_p info_u8
      obtain ⟨g4, cap', w', hrun, hown', hgrow, hat, _⟩ := run_append_lies (P := Tryd.prog) w 33 ty base 5 i0 (.int .u8 0) 1 1 Tryd.underlying33 hi0 hz0 hz1 hz2 rfl (by decide) (.slice ta K cap) K (bvs bs) hown ⟨g, off, none⟩ n c (bvs x) (by rw [bvs_len, hn, Nat.mul_one]) (by
          intro j u hj
          unfold bvs at hj
          rw [List.getElem?_map] at hj
          obtain ⟨y, hy1, rfl⟩ := Option.map_eq_some_iff.1 hj
          rw [Addr.add_lit]
          exact hc j y hy1) (by intro u hu; unfold bvs at hu; obtain ⟨y, _, rfl⟩ := List.mem_map.1 hu; rfl) (by omega) (by unfold maxLen; omega) (by omega) hbs w.heap.size rfl
      refine ⟨some ⟨g4, 0, none⟩, cap', w', hrun, by rw [bvs_app]; exact hown', ⟨hgrow.os, hgrow.tape, hgrow.output, hgrow.size, fun k h1 h2 => hgrow.block k h1 (fun e => h2 e.symm)⟩, ?_⟩
      rcases hat with h | h
      · exact .inl h.symm
      · exact .inr ⟨g4, rfl, Nat.le_of_eq h.symm⟩
theorem app_step2 {ops : Array Oper} {rest : List Oper} {o : Oper} {ac : Go.Act} {w : World} {Q : Exit → Go.Act → World → Prop} (hgd : o.guard = none) (sx xx : Operand)
    (ho : o.op = .call { callee := .builtin .append, args := #[sx, xx], argTypes := #[33, 33] }) {base K n cap c : Nat} {ta ra : Option Addr} {bs x : List Int} (hs : ac.eval sx = .slice ta K cap) (hxx : ac.eval xx = .slice ra n c)
    (hown : w.ownsRow base 5 1 (.slice ta K cap) K (bvs bs)) (hbs : base ≤ w.heap.size) (hx : BytesAt w ra x) (hn : x.length = n) (hK : K ≤ 10000000) (hn2 : n ≤ 1000000)
    (h : ∀ a' cap' w', w'.ownsRow base 5 1 (.slice a' (K + n) cap') (K + n) (bvs (bs ++ x)) → Fx (fun k => (Value.slice ta K cap).ownBlock = some k) w w' →
      ((Value.slice a' (K + n) cap').ownBlock = (Value.slice ta K cap).ownBlock ∨ ∃ g, (Value.slice a' (K + n) cap').ownBlock = some g ∧ w.heap.size ≤ g) → wpList Tryd.prog ops Q rest (ac.put o.dst (.slice a' (K + n) cap')) w') : wpList Tryd.prog ops Q (o :: rest) ac w :=
  wpList_plain hgd fun _ hK' => by
    obtain ⟨a', cap', w', hr, h2, h3, h4⟩ := app_run2 (c := c) o.type hown hbs hx hn hK hn2
    unfold Oper.wp execOp
    simp only [ho, resolve, invoke, builtin, Sem.run_bind, Sem.run_pure, Result.andThen_ok, List.map_toArray, List.map_cons, List.map_nil, hs, hxx, hr]
    exact hK' _ _ (h a' cap' w' h2 h3 h4)
/-- bytes behind them, as a step of a plain region -/
theorem app_bs {ops : Array Oper} {rest : List Oper} {o : Oper} {ac : Go.Act} {w0 w : World} {Q : Exit → Go.Act → World → Prop} (hgd : o.guard = none) (sx xx : Operand)
    (ho : o.op = .call { callee := .builtin .append, args := #[sx, xx], argTypes := #[33, 33] }) {base K n cap c : Nat} {ta ra : Option Addr} {bs x : List Int} (hs : ac.eval sx = .slice ta K cap) (hxx : ac.eval xx = .slice ra n c)
    (h0 : BO w0 base ta K cap bs) (hbs : base ≤ w0.heap.size) (hW : Out 0 0 w0 w) (hx : BytesAt w ra x) (hn : x.length = n) (hK : K ≤ 10000000) (hn2 : n ≤ 1000000)
    (h : ∀ a' cap' w', BO w' base a' (K + n) cap' (bs ++ x) → RS w0 (ob ta K cap) w' (ob a' (K + n) cap') → wpList Tryd.prog ops Q rest (ac.put o.dst (.slice a' (K + n) cap')) w') : wpList Tryd.prog ops Q (o :: rest) ac w :=
  app_step2 hgd sx xx ho hs hxx (h0.kept hW).2 (Nat.le_trans hbs hW.size) hx hn hK hn2 fun a' cap' w' q1 q2 q3 => h a' cap' w' ⟨by rw [List.length_append, h0.1, hn], q1⟩ ((RS.of_out _ hW).trans ⟨q2, q3⟩)
/-- which operand, in the document's numbers -/
def roV (op : Int) : Int := if opS op = 3 then 2 else if opS op = 4 then 3 else if opS op = 2 then 1 else if opS op = 1 then 0 else 4
theorem rbetween_any (w : World) (n lo hi : Int) : Calls Tryd.prog 65 #[.int .i64 n, .int .i64 lo, .int .i64 hi] w fun e w' => e = .returned (.bool (decide (lo ≤ n ∧ n ≤ hi))) ∧ w' = w := by
  by_cases h1 : lo ≤ n
  · by_cases h2 : n ≤ hi
    · have e1 : decide (lo ≤ n) = true := by simpa using h1
      have e2 : decide (n ≤ hi) = true := by simpa using h2
      have e3 : decide (lo ≤ n ∧ n ≤ hi) = true := by simp [h1, h2]
      rw [e3]
      clear h1 h2 e3
      go_enter Tryd.func65, Tryd.ntmps65
      go_wp2
      go_ret
      exact ⟨rfl, rfl⟩
    · have e1 : decide (lo ≤ n) = true := by simpa using h1
      have e2 : decide (n ≤ hi) = false := by simpa using h2
      have e3 : decide (lo ≤ n ∧ n ≤ hi) = false := by simp [h2]
      rw [e3]
      clear h1 h2 e3
      go_enter Tryd.func65, Tryd.ntmps65
      go_wp2
      go_ret
      exact ⟨rfl, rfl⟩
  · have e1 : decide (lo ≤ n) = false := by simpa using h1
    have e3 : decide (lo ≤ n ∧ n ≤ hi) = false := by simp [h1]
    rw [e3]
    clear h1 e3
    go_enter Tryd.func65, Tryd.ntmps65
    go_wp2
    go_ret
    exact ⟨rfl, rfl⟩
theorem opS_cases (op : Int) : (op = 1 ∧ roV op = 2) ∨ (op = 5 ∧ roV op = 3) ∨ ((op == 1) = false ∧ (op == 5) = false ∧ ((decide (2 ≤ op) = true ∧ decide (op ≤ 10) = true ∧ roV op = 1) ∨ (decide (14 ≤ op) = true ∧ decide (op ≤ 18) = true ∧ decide (op ≤ 10) = false ∧ decide (2 ≤ op) = true ∧ roV op = 1) ∨ (decide (2 ≤ op) = true ∧ decide (op ≤ 10) = false ∧ decide (14 ≤ op) = false ∧ decide (11 ≤ op) = true ∧ decide (op ≤ 13) = true ∧ roV op = 0) ∨ (decide (2 ≤ op) = true ∧ decide (op ≤ 10) = false ∧ decide (14 ≤ op) = true ∧ decide (op ≤ 18) = false ∧ decide (11 ≤ op) = true ∧ decide (op ≤ 13) = false ∧ decide (19 ≤ op) = true ∧ decide (op ≤ 22) = true ∧ roV op = 0) ∨ (decide (2 ≤ op) = true ∧ decide (op ≤ 10) = false ∧ decide (14 ≤ op) = true ∧ decide (op ≤ 18) = false ∧ decide (11 ≤ op) = true ∧ decide (op ≤ 13) = false ∧ decide (19 ≤ op) = true ∧ decide (op ≤ 22) = false ∧ decide (30 ≤ op) = true ∧ decide (op ≤ 75) = true ∧ roV op = 0) ∨ (decide (2 ≤ op) = true ∧ decide (op ≤ 10) = false ∧ decide (14 ≤ op) = true ∧ decide (op ≤ 18) = false ∧ decide (11 ≤ op) = true ∧ decide (op ≤ 13) = false ∧ decide (19 ≤ op) = true ∧ decide (op ≤ 22) = false ∧ decide (30 ≤ op) = true ∧ decide (op ≤ 75) = false ∧ roV op = 4) ∨ (decide (2 ≤ op) = true ∧ decide (op ≤ 10) = false ∧ decide (14 ≤ op) = true ∧ decide (op ≤ 18) = false ∧ decide (11 ≤ op) = true ∧ decide (op ≤ 13) = false ∧ decide (19 ≤ op) = true ∧ decide (op ≤ 22) = false ∧ decide (30 ≤ op) = false ∧ roV op = 4) ∨ (decide (2 ≤ op) = false ∧ decide (14 ≤ op) = false ∧ decide (11 ≤ op) = false ∧ decide (19 ≤ op) = false ∧ decide (30 ≤ op) = false ∧ roV op = 4))) := by
  simp only [decide_eq_true_eq, decide_eq_false_iff_not, beq_eq_false_iff_ne, ne_eq]
  unfold roV opS
  by_cases h1 : op = 1
  · left; subst h1; simp
  by_cases h5 : op = 5
  · right; left; subst h5; simp
  right; right
  refine ⟨h1, h5, ?_⟩
  rw [if_neg h1, if_neg h5]
  split <;> rename_i h
  · simp; omega
  · split <;> rename_i h'
    · simp; omega
    · simp; omega
set_option maxRecDepth 100000 in
theorem roperand_any (w : World) (op : Int) : Calls Tryd.prog 66 #[.int .i64 op] w fun e w' => e = .returned (.int .i64 (roV op)) ∧ w' = w := by
  rcases opS_cases op with ⟨rfl, h⟩ | ⟨rfl, h⟩ | ⟨q1, q5, h | h | h | h | h | h | h | h⟩
  · rw [h]; clear h
    go_enter Tryd.func66, Tryd.ntmps66
    go_wp2
    go_ret
    exact ⟨rfl, rfl⟩
  · rw [h]; clear h
    go_enter Tryd.func66, Tryd.ntmps66
    go_wp2
    go_ret
    exact ⟨rfl, rfl⟩
  · obtain ⟨h1, h2, h⟩ := h
    rw [h]; clear h
    go_enter Tryd.func66, Tryd.ntmps66
    go_wp2
    go_ret
    exact ⟨rfl, rfl⟩
  · obtain ⟨h1, h2, h3, h4, h⟩ := h
    rw [h]; clear h
    go_enter Tryd.func66, Tryd.ntmps66
    go_wp2
    go_ret
    exact ⟨rfl, rfl⟩
  · obtain ⟨h1, h2, h3, h4, h5, h⟩ := h
    rw [h]; clear h
    go_enter Tryd.func66, Tryd.ntmps66
    go_wp2
    go_ret
    exact ⟨rfl, rfl⟩
  · obtain ⟨h1, h2, h3, h4, h5, h6, h7, h8, h⟩ := h
    rw [h]; clear h
    go_enter Tryd.func66, Tryd.ntmps66
    go_wp2
    go_ret
    exact ⟨rfl, rfl⟩
  · obtain ⟨h1, h2, h3, h4, h5, h6, h7, h8, h9, h10, h⟩ := h
    rw [h]; clear h
    go_enter Tryd.func66, Tryd.ntmps66
    go_wp2
    go_ret
    exact ⟨rfl, rfl⟩
  · obtain ⟨h1, h2, h3, h4, h5, h6, h7, h8, h9, h10, h⟩ := h
    rw [h]; clear h
    go_enter Tryd.func66, Tryd.ntmps66
    go_wp2
    go_ret
    exact ⟨rfl, rfl⟩
  · obtain ⟨h1, h2, h3, h4, h5, h6, h7, h8, h9, h⟩ := h
    rw [h]; clear h
    go_enter Tryd.func66, Tryd.ntmps66
    go_wp2
    go_ret
    exact ⟨rfl, rfl⟩
  · obtain ⟨h1, h2, h3, h4, h5, h⟩ := h
    rw [h]; clear h
    go_enter Tryd.func66, Tryd.ntmps66
    go_wp2
    go_ret
    exact ⟨rfl, rfl⟩
end Go.Proofs.YtkghabmgofgclaaDoor
