import Derived.Test.YtkghabmgofgclaaDoorQae
namespace Go.Proofs.YtkghabmgofgclaaDoor
open Go.RowKit
set_option linter.unusedVariables false
set_option linter.unusedSimpArgs false

/-- the row of bytes that grows: what a step leaves -/
def RS (w : World) (o : Option Nat) (w' : World) (o' : Option Nat) : Prop := Fx (fun k => o = some k) w w' ∧ (o' = o ∨ ∃ g, o' = some g ∧ w.heap.size ≤ g)
theorem RS.trans {a b c : World} {o p q : Option Nat} (h : RS a o b p) (g : RS b p c q) : RS a o c q := by
  obtain ⟨h1, h2⟩ := h
  obtain ⟨g1, g2⟩ := g
  refine ⟨h1.then g1 fun k hk e => ?_, ?_⟩
  · rcases h2 with r | ⟨x, r, hx⟩
    · rw [← r]; exact e
    · rw [r] at e; cases e; omega
  · rcases g2 with r | ⟨x, r, hx⟩
    · rw [r]
      rcases h2 with s | ⟨y, s, hy⟩
      · exact .inl s
      · exact .inr ⟨y, s, hy⟩
    · exact .inr ⟨x, r, Nat.le_trans h1.size hx⟩
theorem RS.out {a w w' : World} {o o' : Option Nat} (h : RS w o w' o') (g : Out 0 0 a w) (ho : ∀ k, o = some k → a.heap.size ≤ k) : Out 0 0 a w' :=
  ⟨h.1.1.trans g.1, h.1.2.1.trans g.2.1, h.1.2.2.1.trans g.2.2.1, Nat.le_trans g.size h.1.size, fun k h1 h2 => (h.1.2.2.2.2 k (Nat.lt_of_lt_of_le h1 g.size) (fun e => by have := ho k e; omega)).trans (g.block h1 h2)⟩
theorem RS.of_out {w w' : World} (o : Option Nat) (h : Out 0 0 w w') : RS w o w' o := ⟨Fx.of_out h, .inl rfl⟩
/-- a row of bytes of one's own; its block -/
def BO (w : World) (base : Nat) (a : Option Addr) (K c : Nat) (bs : List Int) : Prop := bs.length = K ∧ w.ownsRow base 5 1 (.slice a K c) K (bvs bs)
def ob (a : Option Addr) (K c : Nat) : Option Nat := (Value.slice a K c).ownBlock
theorem BO.kept {w w' : World} {base K c : Nat} {a : Option Addr} {bs : List Int} (h : BO w base a K c bs) (o : Out 0 0 w w') : BO w' base a K c bs := ⟨h.1, own_fx (S := fun _ => False) h.2 (Fx.of_out o) (fun _ _ z => z)⟩
theorem BO.ge {w : World} {base K c : Nat} {a : Option Addr} {bs : List Int} (h : BO w base a K c bs) : ∀ k, ob a K c = some k → base ≤ k ∧ k < w.heap.size := fun k hk => own_ge h.2 hk
theorem BO.nil (w : World) (base : Nat) : BO w base none 0 0 [] := ⟨rfl, World.ownsRow_nil _ _ _ 1⟩
theorem app_run2 {w : World} {base K n cap c : Nat} {ta ra : Option Addr} {bs x : List Int} (ty : TypeId) (hown : w.ownsRow base 5 1 (.slice ta K cap) K (bvs bs)) (hbs : base ≤ w.heap.size) (hx : BytesAt w ra x) (hn : x.length = n) (hK : K ≤ 10000000) (hn2 : n ≤ 1000000) :
    ∃ a' cap' w', (Builtin.append_ #[33, 33] ty #[.slice ta K cap, .slice ra n c]).run Tryd.prog w = .ok (.slice a' (K + n) cap') w' ∧ w'.ownsRow base 5 1 (.slice a' (K + n) cap') (K + n) (bvs (bs ++ x)) ∧ Fx (fun k => (Value.slice ta K cap).ownBlock = some k) w w' ∧
      ((Value.slice a' (K + n) cap').ownBlock = (Value.slice ta K cap).ownBlock ∨ ∃ g, (Value.slice a' (K + n) cap').ownBlock = some g ∧ w.heap.size ≤ g) := by
  rcases hx.2 with rfl | ⟨g, off, rfl, hc⟩
  · have : n = 0 := hn.symm
    subst this
    refine ⟨ta, cap, w, run_none w ty ta ra K cap c ?_, by rw [List.append_nil]; exact hown, Fx.refl _ _, .inl rfl⟩
    rcases hown.2 with ⟨h1, h2⟩ | ⟨g, c2, cur, h1, _, _, h4, _⟩
    · omega
    · cases h1; exact h4
  · by_cases h0 : n = 0
    · subst h0
      have : x = [] := List.eq_nil_of_length_eq_zero hn
      subst this
      refine ⟨ta, cap, w, run_none w ty ta _ K cap c ?_, by rw [List.append_nil]; exact hown, Fx.refl _ _, .inl rfl⟩
      rcases hown.2 with ⟨h1, h2⟩ | ⟨g, c2, cur, h1, _, _, h4, _⟩
      · omega
      · cases h1; exact h4
    · obtain ⟨i0, hi0, hz0, hz1, hz2⟩ := info_p info_u8
      obtain ⟨g4, cap', w', hrun, hown', hgrow, hat, _⟩ := run_append_lies (P := Tryd.prog) w 33 ty base 5 i0 (.int .u8 0) 1 1 Tryd.underlying33 hi0 hz0 hz1 hz2 rfl (by decide) (.slice ta K cap) K (bvs bs) hown ⟨g, off, none⟩ n c (bvs x) (by rw [bvs_len, hn, Nat.mul_one]) (by
          intro j u hj
          unfold bvs at hj
          rw [List.getElem?_map] at hj
          obtain ⟨y, hy1, rfl⟩ := Option.map_eq_some_iff.1 hj
          rw [Addr.add_lit]
          exact hc j y hy1) (by intro u hu; unfold bvs at hu; obtain ⟨y, _, rfl⟩ := List.mem_map.1 hu; rfl) (by omega) (by unfold maxLen; omega) (by omega) hbs w.heap.size rfl
      refine ⟨some ⟨g4, 0, none⟩, cap', w', hrun, by rw [bvs_app]; exact hown', ⟨hgrow.os, hgrow.tape, hgrow.output, hgrow.size, fun k h1 h2 => hgrow.block k h1 (fun e => h2 e.symm)⟩, ?_⟩
      rcases hat with h | h
      · exact .inl h.symm
      · exact .inr ⟨g4, rfl, Nat.le_of_eq h.symm⟩
theorem app_step2 {ops : Array Oper} {rest : List Oper} {o : Oper} {ac : Go.Act} {w : World} {Q : Exit → Go.Act → World → Prop} (hgd : o.guard = none) (sx xx : Operand)
    (ho : o.op = .call { callee := .builtin .append, args := #[sx, xx], argTypes := #[33, 33] }) {base K n cap c : Nat} {ta ra : Option Addr} {bs x : List Int} (hs : ac.eval sx = .slice ta K cap) (hxx : ac.eval xx = .slice ra n c)
    (hown : w.ownsRow base 5 1 (.slice ta K cap) K (bvs bs)) (hbs : base ≤ w.heap.size) (hx : BytesAt w ra x) (hn : x.length = n) (hK : K ≤ 10000000) (hn2 : n ≤ 1000000)
    (h : ∀ a' cap' w', w'.ownsRow base 5 1 (.slice a' (K + n) cap') (K + n) (bvs (bs ++ x)) → Fx (fun k => (Value.slice ta K cap).ownBlock = some k) w w' →
      ((Value.slice a' (K + n) cap').ownBlock = (Value.slice ta K cap).ownBlock ∨ ∃ g, (Value.slice a' (K + n) cap').ownBlock = some g ∧ w.heap.size ≤ g) → wpList Tryd.prog ops Q rest (ac.put o.dst (.slice a' (K + n) cap')) w') : wpList Tryd.prog ops Q (o :: rest) ac w :=
  wpList_plain hgd fun _ hK' => by
    obtain ⟨a', cap', w', hr, h2, h3, h4⟩ := app_run2 (c := c) o.type hown hbs hx hn hK hn2
    unfold Oper.wp execOp
    simp only [ho, resolve, invoke, builtin, Sem.run_bind, Sem.run_pure, Result.andThen_ok, List.map_toArray, List.map_cons, List.map_nil, hs, hxx, hr]
    exact hK' _ _ (h a' cap' w' h2 h3 h4)
/-- bytes behind them, as a step of a plain region -/
theorem app_bs {ops : Array Oper} {rest : List Oper} {o : Oper} {ac : Go.Act} {w0 w : World} {Q : Exit → Go.Act → World → Prop} (hgd : o.guard = none) (sx xx : Operand)
    (ho : o.op = .call { callee := .builtin .append, args := #[sx, xx], argTypes := #[33, 33] }) {base K n cap c : Nat} {ta ra : Option Addr} {bs x : List Int} (hs : ac.eval sx = .slice ta K cap) (hxx : ac.eval xx = .slice ra n c)
    (h0 : BO w0 base ta K cap bs) (hbs : base ≤ w0.heap.size) (hW : Out 0 0 w0 w) (hx : BytesAt w ra x) (hn : x.length = n) (hK : K ≤ 10000000) (hn2 : n ≤ 1000000)
    (h : ∀ a' cap' w', BO w' base a' (K + n) cap' (bs ++ x) → RS w0 (ob ta K cap) w' (ob a' (K + n) cap') → wpList Tryd.prog ops Q rest (ac.put o.dst (.slice a' (K + n) cap')) w') : wpList Tryd.prog ops Q (o :: rest) ac w :=
  app_step2 hgd sx xx ho hs hxx (h0.kept hW).2 (Nat.le_trans hbs hW.size) hx hn hK hn2 fun a' cap' w' q1 q2 q3 => h a' cap' w' ⟨by rw [List.length_append, h0.1, hn], q1⟩ ((RS.of_out _ hW).trans ⟨q2, q3⟩)
/-- which operand, in the document's numbers -/
def roV (op : Int) : Int := if opS op = 3 then 2 else if opS op = 4 then 3 else if opS op = 2 then 1 else if opS op = 1 then 0 else 4
theorem rbetween_any (w : World) (n lo hi : Int) : Calls Tryd.prog 65 #[.int .i64 n, .int .i64 lo, .int .i64 hi] w fun e w' => e = .returned (.bool (decide (lo ≤ n ∧ n ≤ hi))) ∧ w' = w := by
  by_cases h1 : lo ≤ n
  · by_cases h2 : n ≤ hi
    · have e1 : decide (lo ≤ n) = true := by simpa using h1
      have e2 : decide (n ≤ hi) = true := by simpa using h2
      have e3 : decide (lo ≤ n ∧ n ≤ hi) = true := by simp [h1, h2]
      rw [e3]
      clear h1 h2 e3
      go_enter Tryd.func65, Tryd.ntmps65
      go_wp2
      go_ret
      exact ⟨rfl, rfl⟩
    · have e1 : decide (lo ≤ n) = true := by simpa using h1
      have e2 : decide (n ≤ hi) = false := by simpa using h2
      have e3 : decide (lo ≤ n ∧ n ≤ hi) = false := by simp [h2]
      rw [e3]
      clear h1 h2 e3
      go_enter Tryd.func65, Tryd.ntmps65
      go_wp2
      go_ret
      exact ⟨rfl, rfl⟩
  · have e1 : decide (lo ≤ n) = false := by simpa using h1
    have e3 : decide (lo ≤ n ∧ n ≤ hi) = false := by simp [h1]
    rw [e3]
    clear h1 e3
    go_enter Tryd.func65, Tryd.ntmps65
    go_wp2
    go_ret
    exact ⟨rfl, rfl⟩
theorem opS_cases (op : Int) : (op = 1 ∧ roV op = 2) ∨ (op = 5 ∧ roV op = 3) ∨ ((op == 1) = false ∧ (op == 5) = false ∧ ((decide (2 ≤ op) = true ∧ decide (op ≤ 10) = true ∧ roV op = 1) ∨ (decide (14 ≤ op) = true ∧ decide (op ≤ 18) = true ∧ decide (op ≤ 10) = false ∧ decide (2 ≤ op) = true ∧ roV op = 1) ∨ (decide (2 ≤ op) = true ∧ decide (op ≤ 10) = false ∧ decide (14 ≤ op) = false ∧ decide (11 ≤ op) = true ∧ decide (op ≤ 13) = true ∧ roV op = 0) ∨ (decide (2 ≤ op) = true ∧ decide (op ≤ 10) = false ∧ decide (14 ≤ op) = true ∧ decide (op ≤ 18) = false ∧ decide (11 ≤ op) = true ∧ decide (op ≤ 13) = false ∧ decide (19 ≤ op) = true ∧ decide (op ≤ 22) = true ∧ roV op = 0) ∨ (decide (2 ≤ op) = true ∧ decide (op ≤ 10) = false ∧ decide (14 ≤ op) = true ∧ decide (op ≤ 18) = false ∧ decide (11 ≤ op) = true ∧ decide (op ≤ 13) = false ∧ decide (19 ≤ op) = true ∧ decide (op ≤ 22) = false ∧ decide (30 ≤ op) = true ∧ decide (op ≤ 75) = true ∧ roV op = 0) ∨ (decide (2 ≤ op) = true ∧ decide (op ≤ 10) = false ∧ decide (14 ≤ op) = true ∧ decide (op ≤ 18) = false ∧ decide (11 ≤ op) = true ∧ decide (op ≤ 13) = false ∧ decide (19 ≤ op) = true ∧ decide (op ≤ 22) = false ∧ decide (30 ≤ op) = true ∧ decide (op ≤ 75) = false ∧ roV op = 4) ∨ (decide (2 ≤ op) = true ∧ decide (op ≤ 10) = false ∧ decide (14 ≤ op) = true ∧ decide (op ≤ 18) = false ∧ decide (11 ≤ op) = true ∧ decide (op ≤ 13) = false ∧ decide (19 ≤ op) = true ∧ decide (op ≤ 22) = false ∧ decide (30 ≤ op) = false ∧ roV op = 4) ∨ (decide (2 ≤ op) = false ∧ decide (14 ≤ op) = false ∧ decide (11 ≤ op) = false ∧ decide (19 ≤ op) = false ∧ decide (30 ≤ op) = false ∧ roV op = 4))) := by
  simp only [decide_eq_true_eq, decide_eq_false_iff_not, beq_eq_false_iff_ne, ne_eq]
  unfold roV opS
  by_cases h1 : op = 1
  · left; subst h1; simp
  by_cases h5 : op = 5
  · right; left; subst h5; simp
  right; right
  refine ⟨h1, h5, ?_⟩
  rw [if_neg h1, if_neg h5]
  split <;> rename_i h
  · simp; omega
  · split <;> rename_i h'
    · simp; omega
    · simp; omega
set_option maxRecDepth 100000 in
theorem roperand_any (w : World) (op : Int) : Calls Tryd.prog 66 #[.int .i64 op] w fun e w' => e = .returned (.int .i64 (roV op)) ∧ w' = w := by
  rcases opS_cases op with ⟨rfl, h⟩ | ⟨rfl, h⟩ | ⟨q1, q5, h | h | h | h | h | h | h | h⟩
  · rw [h]; clear h
    go_enter Tryd.func66, Tryd.ntmps66
    go_wp2
    go_ret
    exact ⟨rfl, rfl⟩
  · rw [h]; clear h
    go_enter Tryd.func66, Tryd.ntmps66
    go_wp2
    go_ret
    exact ⟨rfl, rfl⟩
  · obtain ⟨h1, h2, h⟩ := h
    rw [h]; clear h
    go_enter Tryd.func66, Tryd.ntmps66
    go_wp2
    go_ret
    exact ⟨rfl, rfl⟩
  · obtain ⟨h1, h2, h3, h4, h⟩ := h
    rw [h]; clear h
    go_enter Tryd.func66, Tryd.ntmps66
    go_wp2
    go_ret
    exact ⟨rfl, rfl⟩
  · obtain ⟨h1, h2, h3, h4, h5, h⟩ := h
    rw [h]; clear h
    go_enter Tryd.func66, Tryd.ntmps66
    go_wp2
    go_ret
    exact ⟨rfl, rfl⟩
  · obtain ⟨h1, h2, h3, h4, h5, h6, h7, h8, h⟩ := h
    rw [h]; clear h
    go_enter Tryd.func66, Tryd.ntmps66
    go_wp2
    go_ret
    exact ⟨rfl, rfl⟩
  · obtain ⟨h1, h2, h3, h4, h5, h6, h7, h8, h9, h10, h⟩ := h
    rw [h]; clear h
    go_enter Tryd.func66, Tryd.ntmps66
    go_wp2
    go_ret
    exact ⟨rfl, rfl⟩
  · obtain ⟨h1, h2, h3, h4, h5, h6, h7, h8, h9, h10, h⟩ := h
    rw [h]; clear h
    go_enter Tryd.func66, Tryd.ntmps66
    go_wp2
    go_ret
    exact ⟨rfl, rfl⟩
  · obtain ⟨h1, h2, h3, h4, h5, h6, h7, h8, h9, h⟩ := h
    rw [h]; clear h
    go_enter Tryd.func66, Tryd.ntmps66
    go_wp2
    go_ret
    exact ⟨rfl, rfl⟩
  · obtain ⟨h1, h2, h3, h4, h5, h⟩ := h
    rw [h]; clear h
    go_enter Tryd.func66, Tryd.ntmps66
    go_wp2
    go_ret
    exact ⟨rfl, rfl⟩
end Go.Proofs.YtkghabmgofgclaaDoor
namespace Go.Proofs.YtkghabmgofgclaaDoor
open Go.RowKit
set_option linter.unusedVariables false
set_option linter.unusedSimpArgs false

theorem one_byte2 (w : World) {b c : Int} {H : Nat} (h0 : 0 ≤ b) (h1 : b ≤ 255) (hc : c = b) (hH : w.heap.size = H) : BytesAt (w.alloc (.cells #[.int .u8 c] 5)) (some ⟨H, 0, none⟩) [b] := by
  subst hc hH
  exact one_byte w h0 h1
theorem num_10 {n : Nat} (h : (n : Int) ≤ 9223372036854775807) : (numB n).length ≤ 10 := numB_len (k := 9) (by omega)
set_option maxRecDepth 100000 in
theorem rnumber_any {w : World} {base K c : Nat} {a : Option Addr} {bs : List Int} (h : BO w base a K c bs) (hb : base ≤ w.heap.size) (n : Nat) (hn : (n : Int) ≤ 9223372036854775807) (hK : K ≤ 9000000) :
    Calls Tryd.prog 44 #[.slice a K c, .int .i64 n] w fun e w' => ∃ a' K' c', e = .returned (.slice a' K' c') ∧ BO w' base a' K' c' (bs ++ numB n) ∧ RS w (ob a K c) w' (ob a' K' c') := by
  have HB := hid_mk h
  have HN := hid_mk (And.intro hn (And.intro hb hK))
  clear h hn hb hK
  go_enter Tryd.func44, Tryd.ntmps44
  go_wp2_with fail
  go_loopw [0, 1] (fun bv x wr => ∃ (m : Nat) (a1 : Option Addr) (K1 c1 : Nat) (b1 : List Int), x = .int .i64 m ∧ m ≤ n ∧ bv = .slice a1 K1 c1 ∧ b1 ++ numB m = bs ++ numB n ∧ BO wr base a1 K1 c1 b1 ∧ RS w (ob a K c) wr (ob a1 K1 c1)) (fun _ x _ => (intOf x).toNat)
  case atStart => exact ⟨n, a, K, c, bs, rfl, Nat.le_refl _, rfl, rfl, HB.out, RS.of_out _ (Out.refl 0 0 w)⟩
  case round =>
    obtain ⟨m, a1, K1, c1, b1, rfl, hmn, rfl, hF, hB1, hS⟩ := hrel
    have HM := hid_mk hmn
    have HF := hid_mk hF
    have HB1 := hid_mk hB1
    have HS := hid_mk hS
    have HL : Hid (K1 ≤ 9000010) := hid_mk (by
      have h1 := congrArg List.length hF
      rw [List.length_append, List.length_append, hB1.1, HB.out.1] at h1
      have := num_10 HN.out.1
      have := HN.out.2.2
      omega)
    clear hmn hF hB1 hS
    by_cases hgo : 128 ≤ m
    · have g1 : (128 : Int) ≤ (m : Int) := by omega
      have hd : decide ((128 : Int) ≤ (m : Int)) = true := by simp; omega
      go_wp2_with (at_builtin; refine app_bs rfl _ _ rfl rfl rfl HB1.out (Nat.le_trans HN.out.2.1 HS.out.1.size) ((Out.refl 0 0 wr).alloc _) (one_byte2 wr (b := ((128 + m % 128 : Nat) : Int)) (by omega) (by omega) (by omega) rfl) rfl (by have := HL.out; omega) (by omega) ?_; intro a2 c2 w2 q1 q2; have H1 := hid_mk q1; have H2 := hid_mk q2; clear q1 q2)
      go_roundw
      case rel => exact ⟨m / 128, a2, K1 + 1, c2, _, num_v HN.out.1 HM.out, num_le HM.out, rfl, by rw [← HF.out, numB_ge hgo, List.append_assoc]; rfl, H1.out, HS.out.trans H2.out⟩
      case measure => rw [num_q HN.out.1 HM.out]; simp [intOf]; omega
    · have g1 : (m : Int) < 128 := by omega
      have hd : decide ((128 : Int) ≤ (m : Int)) = false := by simp; omega
      go_wp2_with (at_builtin; refine app_bs rfl _ _ rfl rfl rfl HB1.out (Nat.le_trans HN.out.2.1 HS.out.1.size) ((Out.refl 0 0 wr).alloc _) (one_byte2 wr (b := (m : Int)) (by omega) (by omega) (by omega) rfl) rfl (by have := HL.out; omega) (by omega) ?_; intro a2 c2 w2 q1 q2; have H1 := hid_mk q1; have H2 := hid_mk q2; clear q1 q2)
      go_ret
      refine ⟨a2, K1 + 1, c2, rfl, ?_, HS.out.trans H2.out⟩
      rw [← HF.out, numB_lt (by omega)]
      exact H1.out
end Go.Proofs.YtkghabmgofgclaaDoor
namespace Go.Proofs.YtkghabmgofgclaaDoor
open Go.RowKit
set_option linter.unusedVariables false
set_option linter.unusedSimpArgs false

theorem le8_at2 (bits : Int) {k : Nat} (hk : k < 8) : (le8 bits)[k]? = some (bits % 18446744073709551616 / 256 ^ k % 256) := by
  unfold le8
  match k, hk with
  | 0, _ => simp
  | 1, _ => simp; omega
  | 2, _ => simp; omega
  | 3, _ => simp; omega
  | 4, _ => simp; omega
  | 5, _ => simp; omega
  | 6, _ => simp; omega
  | 7, _ => simp; omega
theorem le8_len (bits : Int) : (le8 bits).length = 8 := by unfold le8; simp
theorem le8_up2 {bits : Int} {k : Nat} (hk : k < 8) (l : List Int) : l ++ (le8 bits).take (k + 1) = l ++ (le8 bits).take k ++ [bits % 18446744073709551616 / 256 ^ k % 256] := by
  rw [List.take_add_one, le8_at2 bits hk, List.append_assoc]; rfl
theorem ok_op {op a : Int} (h : okI (op, a)) : 1 ≤ op ∧ op ≤ 75 := by
  have h1 := h.1
  unfold opS at h1
  simp only [] at h1
  by_cases e1 : op = 1
  · omega
  by_cases e5 : op = 5
  · omega
  rw [if_neg e1, if_neg e5] at h1
  split at h1
  · omega
  · split at h1
    · omega
    · exact absurd rfl h1
theorem ro_k {op a : Int} (h : okI (op, a)) : (roV op = 1 ∧ opS op = 2 ∧ 0 ≤ a ∧ a ≤ 2097151) ∨ (roV op = 2 ∧ opS op = 3 ∧ -1152921504606846976 ≤ a ∧ a ≤ 1152921504606846975) ∨ (roV op = 3 ∧ opS op = 4 ∧ -9223372036854775808 ≤ a ∧ a ≤ 9223372036854775807) ∨ (roV op = 0 ∧ opS op = 1) := by
  obtain ⟨h0, h1, h2, h3, h4⟩ := h
  simp only [] at h0 h1 h2 h3 h4
  have hle : opS op ≤ 4 := by unfold opS; split; decide; split; decide; split; decide; split <;> decide
  unfold roV
  rcases (show opS op = 1 ∨ opS op = 2 ∨ opS op = 3 ∨ opS op = 4 by omega) with e | e | e | e
  · right; right; right; simp [e]
  · left; simp [e]; exact h2 e
  · right; left; simp [e]; exact h3 e
  · right; right; left; simp [e]; exact h4 e
theorem u_div {V : Int} {k : Nat} (h0 : 0 ≤ V) : V / 256 ^ k / 256 = V / 256 ^ (k + 1) := by rw [Int.pow_succ, Int.ediv_ediv_of_nonneg (Int.le_of_lt (Int.pow_pos (by decide)))]
theorem u_lt {V : Int} {k : Nat} (h0 : 0 ≤ V) (h1 : V < 18446744073709551616) : 0 ≤ V / 256 ^ k ∧ V / 256 ^ k < 18446744073709551616 := by
  have hp : (0 : Int) < 256 ^ k := Int.pow_pos (by decide)
  exact ⟨Int.ediv_nonneg h0 (Int.le_of_lt hp), Int.lt_of_le_of_lt (Int.ediv_le_self _ h0) h1⟩
theorem k_up {k : Nat} (h : k < 8) : wrap64 ((k : Int) + 1) = ((k + 1 : Nat) : Int) := by unfold wrap64; omega
theorem k_ms {k : Nat} (h : k < 8) : 8 - (intOf (.int .i64 (wrap64 ((k : Int) + 1)))).toNat < 8 - (intOf (.int .i64 (k : Int))).toNat := by rw [k_up h]; simp [intOf]; omega
theorem zig_neg {a : Int} (h : a < 0) (h2 : -1152921504606846976 ≤ a) : wrap64 (wrap64 (-2 * a) - 1) = ((zig a : Nat) : Int) := by unfold zig wrap64; rw [if_neg (by omega)]; omega
theorem zig_pos {a : Int} (h : ¬ a < 0) (h2 : a ≤ 1152921504606846975) : wrap64 (2 * a) = ((zig a : Nat) : Int) := by unfold zig wrap64; rw [if_pos (by omega)]; omega
theorem zig_big {a : Int} (h2 : -1152921504606846976 ≤ a ∧ a ≤ 1152921504606846975) : ((zig a : Nat) : Int) ≤ 9223372036854775807 := by unfold zig; split <;> omega
theorem u8_op2 {op : Int} (h : 1 ≤ op ∧ op ≤ 75) : IntKind.u8.wrap op = op := by simp [IntKind.wrap, IntKind.signed, IntKind.bits]; omega
theorem rnumber_at {w : World} {base K c : Nat} {a : Option Addr} {bs : List Int} (h : BO w base a K c bs) (hb : base ≤ w.heap.size) (n : Nat) (hn : (n : Int) ≤ 9223372036854775807) (hK : K ≤ 9000000) {v : Int} (hv : v = (n : Int)) :
    Calls Tryd.prog 44 #[.slice a K c, .int .i64 v] w fun e w' => ∃ a' K' c', e = .returned (.slice a' K' c') ∧ BO w' base a' K' c' (bs ++ numB n) ∧ RS w (ob a K c) w' (ob a' K' c') := by
  subst hv
  exact rnumber_any h hb n hn hK
set_option maxRecDepth 100000 in
set_option maxHeartbeats 1000000 in
theorem rwritten_any {w : World} {base K c : Nat} {ta : Option Addr} {bs : List Int} (h : BO w base ta K c bs) (hb : base ≤ w.heap.size) {op a : Int} (hx : okI (op, a)) (hK : K ≤ 8000000) :
    Calls Tryd.prog 45 #[.slice ta K c, .agg #[.int .i64 op, .int .i64 a]] w fun e w' => ∃ a' K' c', e = .returned (.slice a' K' c') ∧ BO w' base a' K' c' (bs ++ encI (op, a)) ∧ RS w (ob ta K c) w' (ob a' K' c') := by
  have HOp := hid_mk (ok_op hx)
  have hr := ro_k hx
  have HB := hid_mk h
  have HN := hid_mk (And.intro hb hK)
  have hu8 := u8_op2 (ok_op hx)
  obtain ⟨g, hg⟩ : ∃ g, w.heap.size = g := ⟨_, rfl⟩
  obtain ⟨V, hV⟩ : ∃ V, w.alloc (.cells #[.int .i64 op, .int .i64 a] 61) = V := ⟨_, rfl⟩
  have oV : Out 0 0 w V := by rw [← hV]; exact (Out.refl 0 0 w).alloc _
  have b0 : Bl V g #[.int .i64 op, .int .i64 a] 61 := by rw [← hV, ← hg]; exact Bl.new _ _ _
  have k0 := b0.cell (i := 0) rfl
  have HB0 := hid_mk b0
  have HO := hid_mk oV
  have HOP := hid_mk (roperand_any (op := op))
  have HG := hid_mk hg
  clear h hb hK hx b0 oV
  go_enter Tryd.func45, Tryd.ntmps45
  go_wp2_with (at_builtin; refine app_bs rfl _ _ rfl rfl rfl (HB.out.kept HO.out) (Nat.le_trans HN.out.1 HO.out.size) ((Out.refl 0 0 V).alloc _) (one_byte2 V (b := op) (by have := HOp.out; omega) (by have := HOp.out; omega) rfl rfl) rfl (by have := HN.out; omega) (by omega) ?_; intro a1 c1 w1 q1 q2; have H1 := hid_mk q1; have H2 := hid_mk q2; have k2 := (HB0.out.fx q2.1 (fun e => by have := (HB.out.ge _ e).2; have := HG.out; omega)); have k3 := k2.cell (i := 0) rfl; have k4 := k2.cell (i := 1) rfl; clear q1 q2 k2 k0)
  (try clear hV hg hu8)
  refine calls_same (HOP.out _) ?_
  have HR := hid_mk ((RS.of_out (ob ta K c) HO.out).trans H2.out)
  have hsz : Hid (base ≤ w1.heap.size) := hid_mk (Nat.le_trans (Nat.le_trans HN.out.1 HO.out.size) H2.out.1.size)
  rcases hr with ⟨h1, h2, h3⟩ | ⟨h1, h2, h3⟩ | ⟨h1, h2, h3⟩ | ⟨h1, h2⟩
  · rw [h1]
    have HE : Hid (encI (op, a) = op :: numB a.toNat) := hid_mk (by unfold encI opB; simp only []; rw [if_pos h2])
    have HA := hid_mk h3
    clear h1 h2 h3 k3
    go_wp2_with fail
    refine (rnumber_at H1.out hsz.out a.toNat (by have := HA.out; omega) (by have := HN.out; omega) (by have := HA.out; omega)).mono ?_
    rintro e w2 ⟨a2, K2, c2, rfl, q1, q2⟩
    have H3 := hid_mk q1
    have H4 := hid_mk (HR.out.trans q2)
    clear q1 q2
    go_wp2
    go_ret
    exact ⟨a2, K2, c2, rfl, by rw [HE.out]; simpa using H3.out, H4.out⟩
  · rw [h1]
    have HE : Hid (encI (op, a) = op :: numB (zig a)) := hid_mk (by unfold encI opB; simp only []; rw [if_neg (by rw [h2]; decide), if_pos h2])
    have HA := hid_mk h3
    clear h1 h2 k3
    by_cases hneg : a < 0
    · have q5 : decide (a < 0) = true := by simpa using hneg
      have HZ := hid_mk (zig_neg hneg h3.1)
      clear hneg h3
      go_wp2_with fail
      refine (rnumber_at H1.out hsz.out (zig a) (zig_big HA.out) (by have := HN.out; omega) HZ.out).mono ?_
      rintro e w2 ⟨a2, K2, c2, rfl, q1, q2⟩
      have H3 := hid_mk q1
      have H4 := hid_mk (HR.out.trans q2)
      clear q1 q2
      go_wp2
      go_ret
      exact ⟨a2, K2, c2, rfl, by rw [HE.out]; simpa using H3.out, H4.out⟩
    · have q5 : decide (a < 0) = false := by simpa using hneg
      have HZ := hid_mk (zig_pos hneg h3.2)
      clear hneg h3
      go_wp2_with fail
      refine (rnumber_at H1.out hsz.out (zig a) (zig_big HA.out) (by have := HN.out; omega) HZ.out).mono ?_
      rintro e w2 ⟨a2, K2, c2, rfl, q1, q2⟩
      have H3 := hid_mk q1
      have H4 := hid_mk (HR.out.trans q2)
      clear q1 q2
      go_wp2
      go_ret
      exact ⟨a2, K2, c2, rfl, by rw [HE.out]; simpa using H3.out, H4.out⟩
  · rw [h1]
    have HE : Hid (encI (op, a) = op :: le8 a) := hid_mk (by unfold encI opB; simp only []; rw [if_neg (by rw [h2]; decide), if_neg (by rw [h2]; decide), if_pos h2])
    obtain ⟨U, hU⟩ : ∃ U, a % 18446744073709551616 = U := ⟨_, rfl⟩
    have hUw : IntKind.u64.wrap a = U := by rw [← hU]; simp [IntKind.wrap, IntKind.signed, IntKind.bits]
    have HU : Hid (a % 18446744073709551616 = U ∧ 0 ≤ U ∧ U < 18446744073709551616) := hid_mk ⟨hU, by omega, by omega⟩
    clear h1 h2 h3 k3 hU
    go_wp2_with fail
    clear hUw k4
    go_loopw [0, 5, 6] (fun bv uv kv wr => ∃ (k : Nat) (a2 : Option Addr) (K2 c2 : Nat), kv = .int .i64 k ∧ k ≤ 8 ∧ K2 = K + 1 + k ∧ bv = .slice a2 K2 c2 ∧ uv = .int .u64 (U / 256 ^ k) ∧ BO wr base a2 K2 c2 (bs ++ [op] ++ (le8 a).take k) ∧ RS w (ob ta K c) wr (ob a2 K2 c2)) (fun _ _ kv _ => 8 - (intOf kv).toNat)
    case atStart => exact ⟨0, a1, K + 1, c1, rfl, by omega, rfl, rfl, by simp, by simpa using H1.out, HR.out⟩
    case round =>
      obtain ⟨k, a2, K2, c2, rfl, hk, hK2, rfl, rfl, hbo, hrs⟩ := hrel
      have HBO := hid_mk hbo
      have HRS := hid_mk hrs
      have HKK := hid_mk hK2
      clear hbo hrs hK2
      by_cases hgo : k < 8
      · have l1 : decide ((k : Int) < 8) = true := by simp; omega
        have l2 : decide (k < 8) = true := by simpa using hgo
        obtain ⟨X, hX⟩ : ∃ X, U / 256 ^ k = X := ⟨_, rfl⟩
        have hX2 := u_lt (k := k) HU.out.2.1 HU.out.2.2
        rw [hX] at hX2 ⊢
        obtain ⟨r, hr⟩ : ∃ r, X % 256 = r := ⟨_, rfl⟩
        have hr2 : 0 ≤ r ∧ r ≤ 255 := by omega
        obtain ⟨d, hd⟩ : ∃ d, X / 256 = d := ⟨_, rfl⟩
        have HX : Hid (U / 256 ^ k = X ∧ X % 256 = r ∧ X / 256 = d ∧ k < 8) := hid_mk ⟨hX, hr, hd, hgo⟩
        have HR2 := hid_mk hr2
        have f1 : X.tmod 256 = r := by rw [Int.tmod_eq_emod_of_nonneg hX2.1]; exact hr
        have f2 : X.tdiv 256 = d := by rw [Int.tdiv_eq_ediv_of_nonneg hX2.1]; exact hd
        have f3 : IntKind.u8.wrap r = r := by simp [IntKind.wrap, IntKind.signed, IntKind.bits]; omega
        have f4 : IntKind.u64.wrap r = r := by simp [IntKind.wrap, IntKind.signed, IntKind.bits]; omega
        have f5 : IntKind.u64.wrap d = d := by simp [IntKind.wrap, IntKind.signed, IntKind.bits]; omega
        clear hX hX2 hr2 hgo hk
        go_wp2_with (at_builtin; refine app_bs rfl _ _ rfl rfl rfl HBO.out (Nat.le_trans (Nat.le_trans HN.out.1 (Nat.le_refl _)) HRS.out.1.size) ((Out.refl 0 0 wr).alloc _) (one_byte2 wr (b := r) HR2.out.1 HR2.out.2 rfl rfl) rfl (by have := HKK.out; have := HN.out; have := HX.out.2.2.2; omega) (by omega) ?_; intro a3 c3 w3 q1 q2; have H5 := hid_mk q1; have H6 := hid_mk q2; clear q1 q2)
        exact ⟨⟨k + 1, a3, K2 + 1, c3, by rw [k_up HX.out.2.2.2], HX.out.2.2.2, by have := HKK.out; omega, rfl, by rw [← u_div HU.out.2.1, HX.out.1, HX.out.2.2.1], by rw [le8_up2 HX.out.2.2.2, HU.out.1, HX.out.1, HX.out.2.1]; exact H5.out, HRS.out.trans H6.out⟩, k_ms HX.out.2.2.2⟩
      · obtain rfl : k = 8 := by omega
        clear hgo hk
        go_wp2
        go_ret
        exact ⟨a2, K2, c2, rfl, by
          have h8 : (le8 a).take 8 = le8 a := List.take_of_length_le (by rw [le8_len]; exact Nat.le_refl _)
          have h9 := HBO.out
          rw [h8, List.append_assoc] at h9
          rw [HE.out]
          exact h9, HRS.out⟩
  · rw [h1]
    have HE : Hid (encI (op, a) = [op]) := hid_mk (by unfold encI opB; simp only []; rw [if_neg (by rw [h2]; decide), if_neg (by rw [h2]; decide), if_neg (by rw [h2]; decide)])
    clear h1 h2 k3 k4
    go_wp2
    go_ret
    exact ⟨a1, K + 1, c1, rfl, by rw [HE.out]; exact H1.out, HR.out⟩
end Go.Proofs.YtkghabmgofgclaaDoor
