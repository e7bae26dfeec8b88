/- the law CodeLimits: its walk -/
import Derived.Test.YthijkfcobkdihaaDoorLmc
import Derived.Deep.RegionLaw
import Derived.Deep.Cut
namespace Go.Proofs.YthijkfcobkdihaaDoor
open Go.RowKit
set_option linter.unusedVariables false
set_option linter.unusedSimpArgs false

theorem wz7 {v : Nat} (h : v < 7) : ∃ z : Int, 23 + (v : Int) = z ∧ wrap64 (23 + (v : Int)) = z := ⟨_, rfl, by unfold wrap64; omega⟩
theorem ltA {m : Nat} (h : m < 4096) : decide ((m : Int) < 4096) = true ∧ decide (m < 4096) = true := ⟨by simp; omega, by simpa using h⟩
theorem ltB {m : Nat} (h : m < 15) : decide ((m : Int) < 15) = true ∧ decide (m < 15) = true := ⟨by simp; omega, by simpa using h⟩
theorem upA {m : Nat} (h : m < 5000) : wrap64 ((m : Int) + 1) = ((m + 1 : Nat) : Int) := by unfold wrap64; omega
theorem msA {m c : Nat} (h : m < c) (h2 : c ≤ 5000) : c - (intOf (.int .i64 (wrap64 ((m : Int) + 1)))).toNat < c - (intOf (.int .i64 (m : Int))).toNat := by rw [upA (by omega)]; simp [intOf]; omega
theorem info_bs : (Tryd.prog.info? 23).map (fun i => (i.zero, i.size, i.bytes)) = some (some (.slice none 0 0), 1, 24) := by kernel_rfl
/-- instructions more, as a step of a plain region -/
theorem app_in {ops : Array Oper} {rest : List Oper} {o : Oper} {ac : Go.Act} {w : World} {Q : Exit → Go.Act → World → Prop} (hw : Region.wanted o (yielded ops ac.tmps) = true) (sx yy : Operand)
    (ho : o.op = .call { callee := .builtin .append, args := #[sx, yy], argTypes := #[29, 29] }) {base K cap vb m c : Nat} {ta : Option Addr} {l y : List (Int × Int)} (hs : ac.eval sx = .slice ta K cap) (hyy : ac.eval yy = .slice (some ⟨vb, 0, none⟩) m c)
    (hown : w.ownsRow base 28 2 (.slice ta K cap) K (icl l)) (hbase : base ≤ w.heap.size) (hv : ∀ (j : Nat) u, (icl y)[j]? = some u → w.cell? ⟨vb, j, none⟩ = some u) (hl : y.length = m) (hK : K ≤ 100000) (hm : 0 < m) (hm2 : m ≤ 10000)
    (h : ∀ a' cap' w', w'.ownsRow base 28 2 (.slice a' (K + m) cap') (K + m) (icl (l ++ y)) → Fx (fun k => (Value.slice ta K cap).ownBlock = some k) w w' → wpList Tryd.prog ops Q rest (ac.put o.dst (.slice a' (K + m) cap')) w') : wpList Tryd.prog ops Q (o :: rest) ac w :=
  BigFrame.wpList_want hw fun _ hK' => by
    obtain ⟨a', cap', w', hr, h2, h3, h4⟩ := app_rows (c := c) Tryd.underlying29 info_ins rfl (by decide) (by decide) hown hbase hv (by rw [icl_len, hl]) icl_one hK hm hm2 o.type
    unfold Oper.wp execOp
    simp only [ho, resolve, invoke, builtin, Sem.run_bind, Sem.run_pure, Result.andThen_ok, List.map_toArray, List.map_cons, List.map_nil, hs, hyy, hr]
    exact hK' _ _ (h a' cap' w' (by rw [icl_app]; exact h2) h3)
/-- texts more -/
theorem app_tx {ops : Array Oper} {rest : List Oper} {o : Oper} {ac : Go.Act} {w : World} {Q : Exit → Go.Act → World → Prop} (hw : Region.wanted o (yielded ops ac.tmps) = true) (sx yy : Operand)
    (ho : o.op = .call { callee := .builtin .append, args := #[sx, yy], argTypes := #[33, 33] }) {base K cap vb m c : Nat} {ta : Option Addr} {xs ys : List Value} (hs : ac.eval sx = .slice ta K cap) (hyy : ac.eval yy = .slice (some ⟨vb, 0, none⟩) m c)
    (hown : w.ownsRow base 23 1 (.slice ta K cap) K xs) (hbase : base ≤ w.heap.size) (hv : ∀ (j : Nat) u, ys[j]? = some u → w.cell? ⟨vb, j, none⟩ = some u) (hl : ys.length = m) (h1 : ∀ u ∈ ys, u.oneCell' = true) (hK : K ≤ 100000) (hm : 0 < m) (hm2 : m ≤ 10000)
    (h : ∀ a' cap' w', w'.ownsRow base 23 1 (.slice a' (K + m) cap') (K + m) (xs ++ ys) → Fx (fun k => (Value.slice ta K cap).ownBlock = some k) w w' → wpList Tryd.prog ops Q rest (ac.put o.dst (.slice a' (K + m) cap')) w') : wpList Tryd.prog ops Q (o :: rest) ac w :=
  BigFrame.wpList_want hw fun _ hK' => by
    obtain ⟨a', cap', w', hr, h2, h3, h4⟩ := app_rows (c := c) Tryd.underlying33 info_bs rfl (by decide) (by decide) hown hbase hv (by rw [hl, Nat.mul_one]) h1 hK hm hm2 o.type
    unfold Oper.wp execOp
    simp only [ho, resolve, invoke, builtin, Sem.run_bind, Sem.run_pure, Result.andThen_ok, List.map_toArray, List.map_cons, List.map_nil, hs, hyy, hr]
    exact hK' _ _ (h a' cap' w' h2 h3)
/-- what lies below a row's base stays -/
theorem out_own {a w w' : World} {base K cap sz : Nat} {E : TypeId} {ta : Option Addr} {xs : List Value} (ho : Out 0 0 a w) (h : w.ownsRow base E sz (.slice ta K cap) K xs) (f : Fx (fun k => (Value.slice ta K cap).ownBlock = some k) w w') (hb : a.heap.size ≤ base) : Out 0 0 a w' :=
  ⟨f.1.trans ho.1, f.2.1.trans ho.2.1, f.2.2.1.trans ho.2.2.1, Nat.le_trans ho.size f.size, fun k h1 h2 => (f.2.2.2.2 k (Nat.lt_of_lt_of_le h1 ho.size) (fun q => by have := (own_ge h q).1; omega)).trans (ho.block h1 h2)⟩
/-- the texts: each in a block of its own -/
def TxR (w : World) (xs : List Value) : Prop := ∀ u ∈ xs, ∃ q, u = .slice (some ⟨q, 0, none⟩) 4096 4096 ∧ Bl w q (madeCells #[.int .u8 0] 4096) 5
theorem TxR.one {w : World} {xs : List Value} (h : TxR w xs) : ∀ u ∈ xs, u.oneCell' = true := fun u hu => by
  obtain ⟨q, rfl, _⟩ := h u hu
  rfl
theorem TxR.kept {w w' : World} {xs : List Value} (h : TxR w xs) (o : Out 0 0 w w') : TxR w' xs := fun u hu => by
  obtain ⟨q, h1, h2⟩ := h u hu
  exact ⟨q, h1, h2.kept o (.inr (Nat.zero_le _))⟩
theorem own_u8 {w : World} {base K cap q : Nat} {ta : Option Addr} {xs : List Value} {cs : Array Value} (h : w.ownsRow base 23 1 (.slice ta K cap) K xs) (hb : Bl w q cs 5) : (Value.slice ta K cap).ownBlock ≠ some q := by
  intro e
  rcases h.2 with ⟨h1, _⟩ | ⟨g, c, cur, h1, _, h3, _⟩
  · rw [h1] at e; cases e
  · rw [h1] at e
    have : g = q := Option.some.inj e
    subst this
    have hb' : w.heap[g]? = some (.cells cs 5 (0, 0)) := hb
    rw [h3] at hb'
    cases hb'
theorem TxR.fx {w w' : World} {base K cap : Nat} {ta : Option Addr} {xs ys : List Value} (h : TxR w ys) (ho : w.ownsRow base 23 1 (.slice ta K cap) K xs) (f : Fx (fun k => (Value.slice ta K cap).ownBlock = some k) w w') : TxR w' ys := fun u hu => by
  obtain ⟨q, h1, h2⟩ := h u hu
  exact ⟨q, h1, h2.fx f (own_u8 ho h2)⟩
theorem TxR.app {w : World} {xs ys : List Value} (h : TxR w xs) (h2 : TxR w ys) : TxR w (xs ++ ys) := fun u hu => by
  rcases List.mem_append.1 hu with q | q
  · exact h u q
  · exact h2 u q
/-- .. are texts of a program -/
theorem tx_rows {w : World} {base cap : Nat} {ta : Option Addr} {xs : List Value} (h : w.ownsRow base 23 1 (.slice ta 15 cap) 15 xs) (hx : TxR w xs) : TxIn w w.heap.size ta (tsL []) := by
  obtain ⟨g, rfl, _, hc, cur, hg⟩ := own_cell h (by decide)
  refine .inr ⟨g, 0, rfl, heap_lt hg, fun j t hj => ?_⟩
  have hl := (List.getElem?_eq_some_iff.1 hj).1
  have hlen : (tsL []).length = 15 := by unfold tsL; rw [List.append_nil, List.length_replicate]
  rw [hlen] at hl
  have ht : t = zL 4096 := by
    unfold tsL at hj
    rw [List.append_nil, List.getElem?_replicate, if_pos hl] at hj
    exact (Option.some.inj hj).symm
  subst ht
  obtain ⟨u, hu⟩ : ∃ u, xs[j]? = some u := ⟨_, List.getElem?_eq_getElem (by have := h.1; omega)⟩
  obtain ⟨q, rfl, hq⟩ := hx u (List.mem_of_getElem? hu)
  rw [Nat.zero_add]
  exact ⟨some ⟨q, 0, none⟩, 4096, by rw [zL_len]; exact hc j _ hu, by_made hq⟩
theorem tx_more {w : World} {base cap m q : Nat} {ta : Option Addr} {xs : List Value} (h : w.ownsRow base 23 1 (.slice ta 16 cap) 16 (xs ++ [.slice (some ⟨q, 0, none⟩) m m])) (hx : TxR w xs) (hq : Bl w q (madeCells #[.int .u8 0] m) 5) : TxIn w w.heap.size ta (tsL [zL m]) := by
  obtain ⟨g, rfl, _, hc, cur, hg⟩ := own_cell h (by decide)
  have hxl : xs.length = 15 := by have := h.1; rw [List.length_append] at this; simp only [List.length_cons, List.length_nil] at this; omega
  refine .inr ⟨g, 0, rfl, heap_lt hg, fun j t hj => ?_⟩
  rw [Nat.zero_add]
  unfold tsL at hj
  by_cases hl : j < 15
  · rw [List.getElem?_append_left (by rw [List.length_replicate]; exact hl), List.getElem?_replicate, if_pos hl] at hj
    cases hj
    obtain ⟨u, hu⟩ : ∃ u, xs[j]? = some u := ⟨_, List.getElem?_eq_getElem (by omega)⟩
    obtain ⟨q', rfl, hq'⟩ := hx u (List.mem_of_getElem? hu)
    exact ⟨some ⟨q', 0, none⟩, 4096, by rw [zL_len]; exact hc j _ (by rw [List.getElem?_append_left (by omega)]; exact hu), by_made hq'⟩
  · rw [List.getElem?_append_right (by rw [List.length_replicate]; omega), List.length_replicate] at hj
    have e : j = 15 := by have := (List.getElem?_eq_some_iff.1 hj).1; simp only [List.length_cons, List.length_nil] at this; omega
    subst e
    cases hj
    exact ⟨some ⟨q, 0, none⟩, m, by rw [zL_len]; exact hc 15 _ (by rw [List.getElem?_append_right (by omega), hxl]; rfl), by_made hq⟩
theorem bl_cells {w : World} {g : Nat} {cs : Array Value} {T : TypeId} (h : Bl w g cs T) {l : List Value} (e : cs = l.toArray) : ∀ (j : Nat) u, l[j]? = some u → w.cell? ⟨g, j, none⟩ = some u := fun j u hj => h.cell (by rw [e, List.getElem?_toArray]; exact hj)
theorem mi_rep1 {n : Nat} : MI (List.replicate n (11, 0) ++ [(11, 0)]) := by
  rw [← List.replicate_succ']
  exact mi_rep
theorem len_rep1 : (List.replicate 4096 ((11 : Int), (0 : Int)) ++ [(11, 0)]).length = 4097 := by rw [List.length_append, List.length_replicate]; rfl
theorem out_nil {w w' : World} (f : Fx (fun k => (Value.slice none 0 0).ownBlock = some k) w w') : Out 0 0 w w' := f.out fun k _ q => by cases q
theorem ts0_len : (tsL []).length = 15 := by unfold tsL; rw [List.append_nil, List.length_replicate]
theorem ts1_len (m : Nat) : (tsL [zL m]).length = 16 := by unfold tsL; rw [List.length_append, List.length_replicate]; rfl
theorem txr_cells {w : World} {base cap : Nat} {ta : Option Addr} {xs : List Value} (h : w.ownsRow base 23 1 (.slice ta 15 cap) 15 xs) : ∃ g, ta = some ⟨g, 0, none⟩ ∧ ∀ W, Out 0 0 w W → ∀ (j : Nat) u, xs[j]? = some u → W.cell? ⟨g, j, none⟩ = some u := by
  obtain ⟨g, h1, _, hc, _⟩ := own_cell h (by decide)
  exact ⟨g, h1, fun W o j u hj => o.cell (hc j u hj) (.inr (Nat.zero_le _))⟩
/-- all texts once more, in a drawn region -/
theorem step_tx1 {o : Oper} {a : Act} {K : Act → World → Prop} {Q : Exit → Act → World → Prop} {Wx W : World} (d s : Operand) (ho : o.op = .call { callee := .builtin .append, args := #[d, s], argTypes := #[33, 33] }) {vb c : Nat} {xs : List Value} (hd : a.eval d = .slice none 0 0) (hs : a.eval s = .slice (some ⟨vb, 0, none⟩) 15 c)
    (hW : Out 0 0 Wx W) (hv : ∀ W, Out 0 0 Wx W → ∀ (j : Nat) u, xs[j]? = some u → W.cell? ⟨vb, j, none⟩ = some u) (hl : xs.length = 15) (hx : TxR Wx xs)
    (h : ∀ a' cap' w', w'.ownsRow Wx.heap.size 23 1 (.slice a' 15 cap') 15 xs → Out 0 0 W w' → Out 0 0 Wx w' → TxR w' xs → K (a.put o.dst (.slice a' 15 cap')) w') : o.wp Tryd.prog a W K Q := by
  obtain ⟨a', cap', w', hr, h2, h3, h4⟩ := app_rows (c := c) Tryd.underlying33 info_bs rfl (by decide) (by decide) (World.ownsRow_nil W Wx.heap.size 23 1) hW.size (hv W hW) (by rw [hl]) hx.one (by omega) (m := 15) (by omega) (by omega) o.type
  have o1 := out_nil h3
  unfold Oper.wp execOp
  simp only [ho, resolve, invoke, builtin, Sem.run_bind, Sem.run_pure, Result.andThen_ok, List.map_toArray, List.map_cons, List.map_nil, hd, hs, hr]
  exact h a' cap' w' h2 o1 (hW.trans o1) (hx.kept (hW.trans o1))
/-- and the last text behind them -/
theorem step_tx2 {o : Oper} {a : Act} {K : Act → World → Prop} {Q : Exit → Act → World → Prop} {Wx WA W : World} (d s : Operand) (ho : o.op = .call { callee := .builtin .append, args := #[d, s], argTypes := #[33, 33] }) {m q vb c cap : Nat} {ta : Option Addr} {xs : List Value} (hd : a.eval d = .slice ta 15 cap) (hs : a.eval s = .slice (some ⟨vb, 0, none⟩) 1 c)
    (hA : WA.ownsRow Wx.heap.size 23 1 (.slice ta 15 cap) 15 xs) (hxA : Out 0 0 Wx WA) (hW : Out 0 0 WA W) (hx : TxR WA xs) (hv : Bl W vb #[.slice (some ⟨q, 0, none⟩) m m] 23) (hq : Bl W q (madeCells #[.int .u8 0] m) 5)
    (h : ∀ a' cap' w', Out 0 0 Wx w' → TxIn w' w'.heap.size a' (tsL [zL m]) → K (a.put o.dst (.slice a' 16 cap')) w') : o.wp Tryd.prog a W K Q := by
  have hA2 := own_fx (S := fun _ => False) hA (Fx.of_out hW) (fun _ _ z => z)
  obtain ⟨a', cap', w', hr, h2, h3, h4⟩ := app_rows (c := c) Tryd.underlying33 info_bs rfl (by decide) (by decide) hA2 (Nat.le_trans hxA.size hW.size) (bl_cells hv (l := [.slice (some ⟨q, 0, none⟩) m m]) rfl) (m := 1) rfl (by intro u hu; rw [List.mem_singleton.1 hu]; rfl) (by omega) (by omega) (by omega) o.type
  unfold Oper.wp execOp
  simp only [ho, resolve, invoke, builtin, Sem.run_bind, Sem.run_pure, Result.andThen_ok, List.map_toArray, List.map_cons, List.map_nil, hd, hs, hr]
  exact h a' cap' w' (out_own (hxA.trans hW) hA2 h3 (Nat.le_refl _)) (tx_more h2 ((hx.kept hW).fx hA2 h3) (hq.fx h3 (own_u8 hA2 hq)))
theorem bl_new1 (w : World) (o : Obj) (cs : Array Value) (T : TypeId) : Bl ((w.alloc o).alloc (.cells cs T)) (w.heap.size + 1) cs T := by
  have := Bl.new (w.alloc o) cs T
  rwa [size_alloc] at this
theorem bl_drew {w : World} {g : Nat} {cs : Array Value} {T : TypeId} (h : Bl w g cs T) : Bl w.drew g cs T := h
theorem byt9 : Byt (wrB (0, tsL [zL 4053], oneL)) := by
  have hk := ts_ok (r := [zL 4053]) (by simp) (by intro t ht; rw [List.mem_singleton.1 ht, zL_len]; decide)
  rw [(wr_ok hk (by rw [ts_len _ (by simp), one_t _ (by decide) (by decide)]; decide)).2]
  have hz : ∀ m, Byt (zL m) := fun m b hb => by rw [List.eq_of_mem_replicate hb]; omega
  exact enc_byt hk (by
    intro t ht
    rcases List.mem_append.1 ht with q | q
    · rw [List.eq_of_mem_replicate q]; exact hz _
    · rw [List.mem_singleton.1 q]; exact hz _)
theorem byt_app {l : List Int} (h : Byt l) : Byt (l ++ [0]) := by
  intro b hb
  rcases List.mem_append.1 hb with q | q
  · exact h b q
  · rw [List.mem_singleton.1 q]; omega
theorem own_cap {w : World} {base K cap sz : Nat} {E : TypeId} {ta : Option Addr} {xs : List Value} (h : w.ownsRow base E sz (.slice ta K cap) K xs) : K ≤ cap := by
  rcases h.2 with ⟨h1, h2⟩ | ⟨g, c, cur, h1, h2, h3, h4, h5⟩
  · cases h1; omega
  · cases h1; exact h4
set_option maxRecDepth 100000 in
set_option maxHeartbeats 20000000 in
theorem limits_any {w : World} (hT : Ty w) (n : Int) (hn : -9223372036854775808 ≤ n ∧ n ≤ 9223372036854775807) :
    Calls Tryd.prog 4 #[.int .i64 n] w fun e w' => e = .returned (.bool true) ∧ Out 0 0 w w' := by
  have HWi := hid_mk (fun W : World => within_any (w := W) n 7 (by decide) hn)
  have hv := wi_lt (x := n) (n := 7) (by decide)
  generalize wiV n 7 = v at *
  obtain ⟨z, hz, hwz⟩ := wz7 hv
  have HZ := hid_mk (And.intro hv hz)
  obtain ⟨g, hg⟩ : ∃ g, w.heap.size = g := ⟨_, rfl⟩
  obtain ⟨V, hV⟩ : ∃ V, w.alloc (.cells #[.int .i64 0, .int .i64 0, .int .i64 0, .slice none 0 0] 31) = V := ⟨_, rfl⟩
  have oV : Out 0 0 w V := by rw [← hV]; exact (Out.refl 0 0 w).alloc _
  have b1 : Bl V g oneC 31 := by rw [← hV, ← hg]; exact Bl.new _ _ _
  have HB : Hid (∀ W, Out 0 0 V W → Bl W g oneC 31) := hid_mk fun W o => b1.kept o (.inr (Nat.zero_le _))
  have HT : Hid (∀ W, Out 0 0 V W → Ty W) := hid_mk fun W o => hT.out (oV.trans o) (.inr rfl)
  have HOV := hid_mk oV
  have HO : Hid (Out 0 0 V V) := hid_mk (Out.refl 0 0 V)
  have t64 : ∀ W : World, (Instr.makeSlice 33 (.int .i64 64) (.int .i64 64)).run Tryd.prog W = .ok (.slice (some ⟨W.heap.size, 0, none⟩) 64 64) (W.alloc (.cells (madeCells #[.slice none 0 0] 64) 23)) := run_bs 64 (by decide)
  have t65 : ∀ W : World, (Instr.makeSlice 33 (.int .i64 65) (.int .i64 65)).run Tryd.prog W = .ok (.slice (some ⟨W.heap.size, 0, none⟩) 65 65) (W.alloc (.cells (madeCells #[.slice none 0 0] 65) 23)) := run_bs 65 (by decide)
  have b96 : ∀ W : World, (Instr.makeSlice 23 (.int .i64 4096) (.int .i64 4096)).run Tryd.prog W = .ok (.slice (some ⟨W.heap.size, 0, none⟩) 4096 4096) (W.alloc (.cells (madeCells #[.int .u8 0] 4096) 5)) := run_by 4096 (by decide)
  have b97 : ∀ W : World, (Instr.makeSlice 23 (.int .i64 4097) (.int .i64 4097)).run Tryd.prog W = .ok (.slice (some ⟨W.heap.size, 0, none⟩) 4097 4097) (W.alloc (.cells (madeCells #[.int .u8 0] 4097) 5)) := run_by 4097 (by decide)
  have f64 : ∀ W : World, (Instr.makeSlice 32 (.int .i64 64) (.int .i64 64)).run Tryd.prog W = .ok (.slice (some ⟨W.heap.size, 0, none⟩) 64 64) (W.alloc (.cells (madeCells #[.int .i64 0, .int .i64 0, .int .i64 0, .slice none 0 0] (64 * 4)) 31)) := run_fn 64 (by decide)
  have f65 : ∀ W : World, (Instr.makeSlice 32 (.int .i64 65) (.int .i64 65)).run Tryd.prog W = .ok (.slice (some ⟨W.heap.size, 0, none⟩) 65 65) (W.alloc (.cells (madeCells #[.int .i64 0, .int .i64 0, .int .i64 0, .slice none 0 0] (65 * 4)) 31)) := run_fn 65 (by decide)
  clear hT hn hv hz oV b1
  go_enter Tryd.func4, Tryd.ntmps4
  go_wp2_with fail
  (try rw [hV])
  (try rw [hg])
  clear hV hg
  refine (can_A (HT.out _ HO.out) (HB.out _ HO.out) 64 y1).mono ?_
  rintro e W1 ⟨rfl, o⟩
  replace HO := hid_mk (HO.out.trans o)
  clear o
  go_wp2_with fail
  refine (can_A (HT.out _ HO.out) (HB.out _ HO.out) 65 n1).mono ?_
  rintro e W2 ⟨rfl, o⟩
  replace HO := hid_mk (HO.out.trans o)
  clear o
  go_wp2_with fail
  refine (can_A (HT.out _ HO.out) (HB.out _ HO.out) (-1) n2).mono ?_
  rintro e W3 ⟨rfl, o⟩
  replace HO := hid_mk (HO.out.trans o)
  clear o
  go_wp2_with fail
  refine (can_T (HT.out _ HO.out) (HB.out _ HO.out) 64 y2).mono ?_
  rintro e W4 ⟨rfl, o⟩
  replace HO := hid_mk (HO.out.trans o)
  clear o
  go_wp2_with fail
  refine (can_T (HT.out _ HO.out) (HB.out _ HO.out) 65 n3).mono ?_
  rintro e W5 ⟨rfl, o⟩
  replace HO := hid_mk (HO.out.trans o)
  clear o
  clear t64 t65
  go_wp2_with fail
  refine (can_B (HT.out _ HO.out) (HB.out _ HO.out) 4096 y3).mono ?_
  rintro e W6 ⟨rfl, o⟩
  replace HO := hid_mk (HO.out.trans o)
  clear o
  go_wp2_with fail
  refine (can_B (HT.out _ HO.out) (HB.out _ HO.out) 4097 n4).mono ?_
  rintro e W7 ⟨rfl, o⟩
  replace HO := hid_mk (HO.out.trans o)
  clear o
  clear b97
  go_wp2_with fail
  refine (can_F (HT.out _ HO.out) 64 y4).mono ?_
  rintro e W8 ⟨rfl, o⟩
  replace HO := hid_mk (HO.out.trans o)
  clear o
  go_wp2_with fail
  refine (can_F (HT.out _ HO.out) 65 n5).mono ?_
  rintro e W9 ⟨rfl, o⟩
  replace HO := hid_mk (HO.out.trans o)
  clear o
  clear f64 f65
  go_wp2_with fail
  refine (can_E (HT.out _ HO.out)).mono ?_
  rintro e W10 ⟨rfl, o⟩
  replace HO := hid_mk (HO.out.trans o)
  clear o
  go_wp2_with fail
  refine (can_P (HT.out _ HO.out) 8 64 64 y5).mono ?_
  rintro e W11 ⟨rfl, o⟩
  replace HO := hid_mk (HO.out.trans o)
  clear o
  go_wp2_with fail
  refine (can_P (HT.out _ HO.out) 9 0 0 n7).mono ?_
  rintro e W12 ⟨rfl, o⟩
  replace HO := hid_mk (HO.out.trans o)
  clear o
  go_wp2_with fail
  refine (can_P (HT.out _ HO.out) 0 65 0 n8).mono ?_
  rintro e W13 ⟨rfl, o⟩
  replace HO := hid_mk (HO.out.trans o)
  clear o
  go_wp2_with fail
  refine (can_P (HT.out _ HO.out) 0 0 65 n9).mono ?_
  rintro e W14 ⟨rfl, o⟩
  replace HO := hid_mk (HO.out.trans o)
  clear o
  go_wp2_with fail
  refine (can_P (HT.out _ HO.out) (-1) 0 0 n10).mono ?_
  rintro e W15 ⟨rfl, o⟩
  replace HO := hid_mk (HO.out.trans o)
  clear o
  go_wp2_with fail
  have HWZ := hid_mk hwz
  clear hwz
  go_loopw [5, 6] (fun cv iv wr => ∃ (m : Nat) (ta : Option Addr) (cap : Nat), iv = .int .i64 m ∧ m ≤ 4096 ∧ cv = .slice ta m cap ∧ wr.ownsRow V.heap.size 28 2 (.slice ta m cap) m (icl (List.replicate m (11, 0))) ∧ Out 0 0 V wr) (fun _ iv _ => 4096 - (intOf iv).toNat)
  case atStart => exact ⟨0, none, 0, rfl, Nat.zero_le _, rfl, World.ownsRow_nil _ _ _ 2, HO.out⟩
  case round =>
    obtain ⟨m, ta, cap, rfl, hm, rfl, hown, ho⟩ := hrel
    have HOw := hid_mk hown
    have HOA := hid_mk ho
    by_cases hgo : m < 4096
    · obtain ⟨l1, l2⟩ := ltA hgo
      have HM := hid_mk hgo
      have HB2 := hid_mk (Bl.new wr #[.int .i64 11, .int .i64 0] 28)
      have HO1 : Hid (Out 0 0 wr (wr.alloc (.cells #[.int .i64 11, .int .i64 0] 28))) := hid_mk ((Out.refl 0 0 wr).alloc _)
      clear hown ho hgo hm
      go_wp2_with (at_builtin; refine app_in (by rfl) _ _ rfl rfl rfl (y := [(11, 0)]) (own_fx (S := fun _ => False) HOw.out (Fx.of_out HO1.out) (fun _ _ z => z)) (Nat.le_trans HOA.out.size HO1.out.size) (bl_cells HB2.out rfl) rfl (by have := HM.out; omega) (by omega) (by omega) ?_; intro a' cap' w2 q1 q2; have H1 := hid_mk q1; have H2 := hid_mk q2; clear q1 q2)
      exact ⟨⟨m + 1, a', cap', by rw [upA (by have := HM.out; omega)], HM.out, rfl, by rw [List.replicate_succ']; exact H1.out, out_own (HOA.out.trans HO1.out) (own_fx (S := fun _ => False) HOw.out (Fx.of_out HO1.out) (fun _ _ z => z)) H2.out (Nat.le_refl _)⟩, msA HM.out (by omega)⟩
    · obtain rfl : m = 4096 := by omega
      clear hgo hm hown ho HO
      have HO := HOA
      obtain ⟨gp, rfl, _, hcp, _⟩ := own_cell HOw.out (by decide)
      have HCP : Hid (∀ W, Out 0 0 wr W → ∀ (j : Nat) u, (icl (List.replicate 4096 (11, 0)))[j]? = some u → W.cell? ⟨gp, j, none⟩ = some u) := hid_mk fun W o j u hj => o.cell (hcp j u hj) (.inr (Nat.zero_le _))
      clear hcp
      go_wp2_with fail
      refine (can_C (HT.out _ HO.out) List.length_replicate (in_own HOw.out).2 mi_rep y6).mono ?_
      rintro e Wa ⟨rfl, o⟩
      have HOa := hid_mk o
      replace HO := hid_mk (HO.out.trans o)
      clear o
      go_wp2_with (first
        | (at_builtin; refine app_in (by rfl) _ _ rfl rfl rfl (l := []) (y := List.replicate 4096 (11, 0)) (base := Wa.heap.size) (World.ownsRow_nil _ _ _ 2) (Nat.le_refl _) (HCP.out _ HOa.out) List.length_replicate (by omega) (by omega) (by omega) ?_; intro a1 c1 Wb q1 q2; have H1 : Hid (Wb.ownsRow Wa.heap.size 28 2 (.slice a1 4096 c1) 4096 (icl (List.replicate 4096 (11, 0)))) := hid_mk q1; have H2 := hid_mk (out_nil q2); clear q1 q2)
        | (at_builtin; refine app_in (by rfl) _ _ rfl rfl rfl (y := [(11, 0)]) (own_fx (S := fun _ => False) H1.out (Fx.of_out ((Out.refl 0 0 Wb).alloc _)) (fun _ _ z => z)) (by rw [size_alloc]; have := H2.out.size; omega) (bl_cells (Bl.new Wb #[.int .i64 11, .int .i64 0] 28) rfl) rfl (by omega) (by omega) (by omega) ?_; intro a2 c2 Wc q1 q2; have H3 : Hid (Wc.ownsRow Wa.heap.size 28 2 (.slice a2 4097 c2) 4097 (icl (List.replicate 4096 (11, 0) ++ [(11, 0)]))) := hid_mk q1; replace HO := hid_mk (HO.out.trans (out_own (H2.out.trans ((Out.refl 0 0 Wb).alloc _)) (own_fx (S := fun _ => False) H1.out (Fx.of_out ((Out.refl 0 0 Wb).alloc _)) (fun _ _ z => z)) q2 (Nat.le_refl _))); clear q1 q2))
      refine (can_C (HT.out _ HO.out) len_rep1 (in_own H3.out).2 mi_rep1 n11).mono ?_
      rintro e Wd ⟨rfl, o⟩
      replace HO := hid_mk (HO.out.trans o)
      clear o HCP HOa H1 H2 H3 HOw HOA
      go_wp2_with fail
      refine (can_I (HT.out _ HO.out) 2 2097151 (by decide) y7).mono ?_
      rintro e W16 ⟨rfl, o⟩
      replace HO := hid_mk (HO.out.trans o)
      clear o
      go_wp2_with fail
      refine (can_I (HT.out _ HO.out) 2 2097152 (by decide) (n_ins n12)).mono ?_
      rintro e W17 ⟨rfl, o⟩
      replace HO := hid_mk (HO.out.trans o)
      clear o
      go_wp2_with fail
      refine (can_I (HT.out _ HO.out) 1 1152921504606846976 (by decide) (n_ins n13)).mono ?_
      rintro e W18 ⟨rfl, o⟩
      replace HO := hid_mk (HO.out.trans o)
      clear o
      go_wp2_with fail
      refine (can_I (HT.out _ HO.out) 11 1 (by decide) (n_ins n14)).mono ?_
      rintro e W19 ⟨rfl, o⟩
      replace HO := hid_mk (HO.out.trans o)
      clear o
      have hwz := HWZ.out
      go_wp2_with fail
      refine calls_same (HWi.out _) ?_
      go_wp2_with fail
      refine (can_I (HT.out _ HO.out) z 0 (by have := HZ.out; omega) (n_ins (n15 HZ.out.1 HZ.out.2))).mono ?_
      rintro e W20 ⟨rfl, o⟩
      replace HO := hid_mk (HO.out.trans o)
      clear o
      clear hwz
      go_wp2_with fail
      refine (can_I (HT.out _ HO.out) 76 0 (by decide) (n_ins n16)).mono ?_
      rintro e W21 ⟨rfl, o⟩
      replace HO := hid_mk (HO.out.trans o)
      clear o
      go_wp2_with fail
      obtain ⟨W0, hW0⟩ : ∃ W, W = W21 := ⟨_, rfl⟩
      subst hW0
      go_loopw [7, 8] (fun cv iv wz => ∃ (m : Nat) (tb : Option Addr) (cb : Nat) (xs : List Value), iv = .int .i64 m ∧ m ≤ 15 ∧ cv = .slice tb m cb ∧ wz.ownsRow V.heap.size 23 1 (.slice tb m cb) m xs ∧ TxR wz xs ∧ Out 0 0 V wz) (fun _ iv _ => 15 - (intOf iv).toNat)
      case atStart => exact ⟨0, none, 0, [], rfl, Nat.zero_le _, rfl, World.ownsRow_nil _ _ _ 1, (by intro u hu; cases hu), HO.out⟩
      case round =>
        obtain ⟨m, tb, cb, xs, rfl, hm, rfl, hown, htx, ho⟩ := hrel
        have HOw := hid_mk hown
        have HOA := hid_mk ho
        have HTX := hid_mk htx
        by_cases hgo : m < 15
        · obtain ⟨l1, l2⟩ := ltB hgo
          have HM := hid_mk hgo
          have HO1 : Hid (Out 0 0 wr ((wr.alloc (.cells (madeCells #[.int .u8 0] 4096) 5)).alloc (.cells #[.slice (some ⟨wr.heap.size, 0, none⟩) 4096 4096] 23))) := hid_mk (((Out.refl 0 0 wr).alloc _).alloc _)
          have HB2 : Hid (Bl ((wr.alloc (.cells (madeCells #[.int .u8 0] 4096) 5)).alloc (.cells #[.slice (some ⟨wr.heap.size, 0, none⟩) 4096 4096] 23)) (wr.heap.size + 1) #[.slice (some ⟨wr.heap.size, 0, none⟩) 4096 4096] 23 ∧ Bl ((wr.alloc (.cells (madeCells #[.int .u8 0] 4096) 5)).alloc (.cells #[.slice (some ⟨wr.heap.size, 0, none⟩) 4096 4096] 23)) wr.heap.size (madeCells #[.int .u8 0] 4096) 5) := hid_mk (by
            have := Bl.new (wr.alloc (.cells (madeCells #[.int .u8 0] 4096) 5)) #[.slice (some ⟨wr.heap.size, 0, none⟩) 4096 4096] 23
            rw [size_alloc] at this
            exact ⟨this, (Bl.new _ _ _).alloc _⟩)
          clear hown htx ho hgo hm
          go_wp2_with (at_builtin; refine app_tx (by rfl) _ _ rfl rfl rfl (ys := [.slice (some ⟨wr.heap.size, 0, none⟩) 4096 4096]) (own_fx (S := fun _ => False) HOw.out (Fx.of_out HO1.out) (fun _ _ z => z)) (Nat.le_trans HOA.out.size HO1.out.size) (bl_cells HB2.out.1 rfl) rfl (by intro u hu; rw [List.mem_singleton.1 hu]; rfl) (by have := HM.out; omega) (by omega) (by omega) ?_; intro a' cap' w2 q1 q2; have H1 := hid_mk q1; have H2 := hid_mk q2; clear q1 q2)
          have hO2 := own_fx (S := fun _ => False) HOw.out (Fx.of_out HO1.out) (fun _ _ z => z)
          exact ⟨⟨m + 1, a', cap', _, by rw [upA (by have := HM.out; omega)], HM.out, rfl, H1.out, TxR.app ((HTX.out.kept HO1.out).fx hO2 H2.out) (TxR.fx (fun u hu => by rw [List.mem_singleton.1 hu]; exact ⟨_, rfl, HB2.out.2⟩) hO2 H2.out), out_own (HOA.out.trans HO1.out) hO2 H2.out (Nat.le_refl _)⟩, msA HM.out (by omega)⟩
        · obtain rfl : m = 15 := by omega
          clear hgo hm hown htx ho HO b96
          have HO := HOA
          have HW1 := hid_mk (write_any (w := wr) (B := wr.heap.size) (HT.out _ HO.out) (Nat.le_refl _) 0 (tsL []) oneL tb (some ⟨g, 0, none⟩) 15 cb 1 1 ts0_len rfl (tx_rows HOw.out HTX.out) (one_at (HB.out _ HO.out)) mi_oneL)
          have HX15 := hid_mk HOw.out.1
          obtain ⟨gt, rfl, hxc⟩ := txr_cells HOw.out
          have HXC0 := hid_mk hxc
          clear hxc
          go_wp2_with fail
          refine HW1.out.mono ?_
          rintro e Wx ⟨ra, K, cp, rfl, o, hob, hK⟩
          rw [y8.2] at hK
          rw [y8.1]
          subst hK
          have HXC : Hid (∀ W, Out 0 0 Wx W → ∀ (j : Nat) u, xs[j]? = some u → W.cell? ⟨gt, j, none⟩ = some u) := hid_mk fun W o' => HXC0.out W (o.trans o')
          have HXT := hid_mk (HTX.out.kept o)
          have HXL : Hid (xs.length = 15) := hid_mk (by have := HX15.out; omega)
          replace HO := hid_mk (HO.out.trans o)
          have b53 : ∀ W : World, (Instr.makeSlice 23 (.int .i64 4053) (.int .i64 4053)).run Tryd.prog W = .ok (.slice (some ⟨W.heap.size, 0, none⟩) 4053 4053) (W.alloc (.cells (madeCells #[.int .u8 0] 4053) 5)) := run_by 4053 (by decide)
          clear o hob HW1 HXC0 HX15
          go_upto_region 25 with fail
          go_cut [9, 10] from 17 (fun bv ev wx => ∃ (rb : Option Addr) (cpb : Nat), bv = .slice rb 65536 cpb ∧ ev = .int .i64 0 ∧ Out 0 0 Wx wx ∧ wx.ownsRow Wx.heap.size 5 1 (.slice rb 65536 cpb) 65536 (bvs (wrB (0, tsL [zL 4053], oneL))))
          case first =>
            refine wp_region_held_drew (S := fun _ => True) (by kernel_rfl) ?hS1 (fun hHeld => ?rest1)
            case hS1 => trivial
            refine tk 0 ?_
            refine tk 2 ?_
            refine tk 6 ?_
            refine wpAnyH_ready (rs := [1, 3]) (by kernel_rfl) (by simp) ?_
            refine AllReadyH.cons rfl (fun KK hK => ?_) ?_
            · simp only [xa, xb, xc]
              refine step_tx1 (Wx := Wx) _ _ rfl rfl rfl (by repeat (first | exact Out.refl 0 0 _ | refine Out.alloc ?_ _ | refine Out.drew ?_)) HXC.out HXL.out HXT.out ?_
              intro a1 c1 WA q1 q2 q3 q4
              have A1 := hid_mk q1
              have A2 := hid_mk q2
              have A3 := hid_mk q3
              have A4 := hid_mk q4
              clear q1 q2 q3 q4
              refine hK.out _ _ ?hS5 (fun hHeld2 => ?rest5)
              case hS5 => trivial
              clear hK KK
              (try clear hHeld)
              have hHeld := hHeld2
              clear hHeld2
              (try simp only [Act.put, xa, xb, xc, xd, xe, xf])
              refine wpAnyH_ready (rs := [3]) (by kernel_rfl) (by simp) ?_
              refine AllReadyH.cons rfl (fun KK hK => ?_) ?_
              · simp only [xa, xb, xc]
                go_simp
                refine hK.out _ _ ?hS6 (fun hHeld2 => ?rest6)
                case hS6 => trivial
                clear hK KK
                (try clear hHeld)
                have hHeld := hHeld2
                clear hHeld2
                (try simp only [Act.put, xa, xb, xc, xd, xe, xf])
                refine wpAnyH_ready (rs := [4]) (by kernel_rfl) (by simp) ?_
                refine AllReadyH.cons rfl (fun KK hK => ?_) ?_
                · simp only [xa, xb, xc]
                  go_simp
                  refine hK.out _ _ ?hS7 (fun hHeld2 => ?rest7)
                  case hS7 => trivial
                  clear hK KK
                  (try clear hHeld)
                  have hHeld := hHeld2
                  clear hHeld2
                  (try simp only [Act.put, xa, xb, xc, xd, xe, xf])
                  refine wpAnyH_ready (rs := [5]) (by kernel_rfl) (by simp) ?_
                  refine AllReadyH.cons rfl (fun KK hK => ?_) ?_
                  · simp only [xa, xb, xc]
                    refine step_tx2 (Wx := Wx) (m := 4053) _ _ rfl rfl rfl A1.out A3.out (by repeat (first | exact Out.refl 0 0 _ | refine Out.alloc ?_ _ | refine Out.drew ?_)) A4.out (bl_new1 _ _ _ _) ((Bl.new _ _ _).alloc _) ?_
                    intro a2 c2 WB q1 q2
                    have B1 := hid_mk q1
                    have B2 := hid_mk q2
                    clear q1 q2
                    refine hK.out _ _ ?hS8 (fun hHeld2 => ?rest8)
                    case hS8 => trivial
                    clear hK KK
                    (try clear hHeld)
                    have hHeld := hHeld2
                    clear hHeld2
                    (try simp only [Act.put, xa, xb, xc, xd, xe, xf])
                    refine tk 7 ?_
                    refine wpAnyH_ready (rs := [8]) (by kernel_rfl) (by simp) ?_
                    refine AllReadyH.cons rfl (fun KK hK => ?_) ?_
                    · simp only [xa, xb, xc]
                      go_simp
                      refine (write_any (w := WB) (B := WB.heap.size) (HT.out _ (HO.out.trans B1.out)) (Nat.le_refl _) 0 (tsL [zL 4053]) oneL a2 (some ⟨g, 0, none⟩) 16 c2 1 1 (ts1_len _) rfl B2.out (one_at (HB.out _ (HO.out.trans B1.out))) mi_oneL).mono ?_
                      rintro e WC ⟨rb, K, cpb, rfl, o, hob, hK⟩
                      rw [y9.2] at hK
                      subst hK
                      rw [y9.1]
                      have C1 := hid_mk (B1.out.trans o)
                      have C2 := hid_mk (hob)
                      clear o hob
                      refine hK.out _ _ ?hS10 (fun hHeld2 => ?rest10)
                      case hS10 => trivial
                      clear hK KK
                      (try clear hHeld)
                      have hHeld := hHeld2
                      clear hHeld2
                      (try simp only [Act.put, xa, xb, xc, xd, xe, xf])
                      refine tk 9 ?_
                      refine tk 10 ?_
                      refine tk 11 ?_
                      refine tk 12 ?_
                      refine tk 13 ?_
                      refine wpAnyH_done (by kernel_rfl) ?_ _
                      go_wp2_with fail
                      go_meet
                      exact ⟨rb, cpb, rfl, rfl, C1.out, Go.Joins.ownsRow_le C2.out B1.out.size⟩
                    · exact AllReadyH.nil
                  · exact AllReadyH.nil
                · exact AllReadyH.nil
              · exact AllReadyH.nil
            · refine AllReadyH.cons rfl (fun KK hK => ?_) ?_
              · simp only [xa, xb, xc]
                go_simp
                refine hK.out _ _ ?hS16 (fun hHeld2 => ?rest16)
                case hS16 => trivial
                clear hK KK
                (try clear hHeld)
                have hHeld := hHeld2
                clear hHeld2
                (try simp only [Act.put, xa, xb, xc, xd, xe, xf])
                refine wpAnyH_ready (rs := [1, 4]) (by kernel_rfl) (by simp) ?_
                refine AllReadyH.cons rfl (fun KK hK => ?_) ?_
                · simp only [xa, xb, xc]
                  refine step_tx1 (Wx := Wx) _ _ rfl rfl rfl (by repeat (first | exact Out.refl 0 0 _ | refine Out.alloc ?_ _ | refine Out.drew ?_)) HXC.out HXL.out HXT.out ?_
                  intro a1 c1 WA q1 q2 q3 q4
                  have A1 := hid_mk q1
                  have A2 := hid_mk q2
                  have A3 := hid_mk q3
                  have A4 := hid_mk q4
                  clear q1 q2 q3 q4
                  refine hK.out _ _ ?hS17 (fun hHeld2 => ?rest17)
                  case hS17 => trivial
                  clear hK KK
                  (try clear hHeld)
                  have hHeld := hHeld2
                  clear hHeld2
                  (try simp only [Act.put, xa, xb, xc, xd, xe, xf])
                  refine wpAnyH_ready (rs := [4]) (by kernel_rfl) (by simp) ?_
                  refine AllReadyH.cons rfl (fun KK hK => ?_) ?_
                  · simp only [xa, xb, xc]
                    go_simp
                    refine hK.out _ _ ?hS18 (fun hHeld2 => ?rest18)
                    case hS18 => trivial
                    clear hK KK
                    (try clear hHeld)
                    have hHeld := hHeld2
                    clear hHeld2
                    (try simp only [Act.put, xa, xb, xc, xd, xe, xf])
                    refine wpAnyH_ready (rs := [5]) (by kernel_rfl) (by simp) ?_
                    refine AllReadyH.cons rfl (fun KK hK => ?_) ?_
                    · simp only [xa, xb, xc]
                      refine step_tx2 (Wx := Wx) (m := 4053) _ _ rfl rfl rfl A1.out A3.out (by repeat (first | exact Out.refl 0 0 _ | refine Out.alloc ?_ _ | refine Out.drew ?_)) A4.out (Bl.new _ _ _) (((bl_drew (Bl.new _ _ _)).kept A2.out (.inr (Nat.zero_le _))).alloc _) ?_
                      intro a2 c2 WB q1 q2
                      have B1 := hid_mk q1
                      have B2 := hid_mk q2
                      clear q1 q2
                      refine hK.out _ _ ?hS19 (fun hHeld2 => ?rest19)
                      case hS19 => trivial
                      clear hK KK
                      (try clear hHeld)
                      have hHeld := hHeld2
                      clear hHeld2
                      (try simp only [Act.put, xa, xb, xc, xd, xe, xf])
                      refine tk 7 ?_
                      refine wpAnyH_ready (rs := [8]) (by kernel_rfl) (by simp) ?_
                      refine AllReadyH.cons rfl (fun KK hK => ?_) ?_
                      · simp only [xa, xb, xc]
                        go_simp
                        refine (write_any (w := WB) (B := WB.heap.size) (HT.out _ (HO.out.trans B1.out)) (Nat.le_refl _) 0 (tsL [zL 4053]) oneL a2 (some ⟨g, 0, none⟩) 16 c2 1 1 (ts1_len _) rfl B2.out (one_at (HB.out _ (HO.out.trans B1.out))) mi_oneL).mono ?_
                        rintro e WC ⟨rb, K, cpb, rfl, o, hob, hK⟩
                        rw [y9.2] at hK
                        subst hK
                        rw [y9.1]
                        have C1 := hid_mk (B1.out.trans o)
                        have C2 := hid_mk (hob)
                        clear o hob
                        refine hK.out _ _ ?hS21 (fun hHeld2 => ?rest21)
                        case hS21 => trivial
                        clear hK KK
                        (try clear hHeld)
                        have hHeld := hHeld2
                        clear hHeld2
                        (try simp only [Act.put, xa, xb, xc, xd, xe, xf])
                        refine tk 9 ?_
                        refine tk 10 ?_
                        refine tk 11 ?_
                        refine tk 12 ?_
                        refine tk 13 ?_
                        refine wpAnyH_done (by kernel_rfl) ?_ _
                        go_wp2_with fail
                        go_meet
                        exact ⟨rb, cpb, rfl, rfl, C1.out, Go.Joins.ownsRow_le C2.out B1.out.size⟩
                      · exact AllReadyH.nil
                    · exact AllReadyH.nil
                  · exact AllReadyH.nil
                · refine AllReadyH.cons rfl (fun KK hK => ?_) ?_
                  · simp only [xa, xb, xc]
                    go_simp
                    refine hK.out _ _ ?hS27 (fun hHeld2 => ?rest27)
                    case hS27 => trivial
                    clear hK KK
                    (try clear hHeld)
                    have hHeld := hHeld2
                    clear hHeld2
                    (try simp only [Act.put, xa, xb, xc, xd, xe, xf])
                    refine wpAnyH_ready (rs := [1]) (by kernel_rfl) (by simp) ?_
                    refine AllReadyH.cons rfl (fun KK hK => ?_) ?_
                    · simp only [xa, xb, xc]
                      refine step_tx1 (Wx := Wx) _ _ rfl rfl rfl (by repeat (first | exact Out.refl 0 0 _ | refine Out.alloc ?_ _ | refine Out.drew ?_)) HXC.out HXL.out HXT.out ?_
                      intro a1 c1 WA q1 q2 q3 q4
                      have A1 := hid_mk q1
                      have A2 := hid_mk q2
                      have A3 := hid_mk q3
                      have A4 := hid_mk q4
                      clear q1 q2 q3 q4
                      refine hK.out _ _ ?hS28 (fun hHeld2 => ?rest28)
                      case hS28 => trivial
                      clear hK KK
                      (try clear hHeld)
                      have hHeld := hHeld2
                      clear hHeld2
                      (try simp only [Act.put, xa, xb, xc, xd, xe, xf])
                      refine wpAnyH_ready (rs := [5]) (by kernel_rfl) (by simp) ?_
                      refine AllReadyH.cons rfl (fun KK hK => ?_) ?_
                      · simp only [xa, xb, xc]
                        refine step_tx2 (Wx := Wx) (m := 4053) _ _ rfl rfl rfl A1.out A3.out (by repeat (first | exact Out.refl 0 0 _ | refine Out.alloc ?_ _ | refine Out.drew ?_)) A4.out ((bl_new1 _ _ _ _).kept A2.out (.inr (Nat.zero_le _))) ((((Bl.new _ _ _).alloc _)).kept A2.out (.inr (Nat.zero_le _))) ?_
                        intro a2 c2 WB q1 q2
                        have B1 := hid_mk q1
                        have B2 := hid_mk q2
                        clear q1 q2
                        refine hK.out _ _ ?hS29 (fun hHeld2 => ?rest29)
                        case hS29 => trivial
                        clear hK KK
                        (try clear hHeld)
                        have hHeld := hHeld2
                        clear hHeld2
                        (try simp only [Act.put, xa, xb, xc, xd, xe, xf])
                        refine tk 7 ?_
                        refine wpAnyH_ready (rs := [8]) (by kernel_rfl) (by simp) ?_
                        refine AllReadyH.cons rfl (fun KK hK => ?_) ?_
                        · simp only [xa, xb, xc]
                          go_simp
                          refine (write_any (w := WB) (B := WB.heap.size) (HT.out _ (HO.out.trans B1.out)) (Nat.le_refl _) 0 (tsL [zL 4053]) oneL a2 (some ⟨g, 0, none⟩) 16 c2 1 1 (ts1_len _) rfl B2.out (one_at (HB.out _ (HO.out.trans B1.out))) mi_oneL).mono ?_
                          rintro e WC ⟨rb, K, cpb, rfl, o, hob, hK⟩
                          rw [y9.2] at hK
                          subst hK
                          rw [y9.1]
                          have C1 := hid_mk (B1.out.trans o)
                          have C2 := hid_mk (hob)
                          clear o hob
                          refine hK.out _ _ ?hS31 (fun hHeld2 => ?rest31)
                          case hS31 => trivial
                          clear hK KK
                          (try clear hHeld)
                          have hHeld := hHeld2
                          clear hHeld2
                          (try simp only [Act.put, xa, xb, xc, xd, xe, xf])
                          refine tk 9 ?_
                          refine tk 10 ?_
                          refine tk 11 ?_
                          refine tk 12 ?_
                          refine tk 13 ?_
                          refine wpAnyH_done (by kernel_rfl) ?_ _
                          go_wp2_with fail
                          go_meet
                          exact ⟨rb, cpb, rfl, rfl, C1.out, Go.Joins.ownsRow_le C2.out B1.out.size⟩
                        · exact AllReadyH.nil
                      · exact AllReadyH.nil
                    · exact AllReadyH.nil
                  · exact AllReadyH.nil
              · exact AllReadyH.nil
          case rest =>
            obtain ⟨rb, cpb, rfl, rfl, o, hob⟩ := hcut
            have HOb := hid_mk hob
            have HOX := hid_mk o
            have HBY := hid_mk (Bl.new wc #[.int .u8 0] 5)
            clear o hob
            go_wp2_with (at_builtin; refine app_step rfl _ _ rfl rfl rfl (x := [0]) (own_fx (S := fun _ => False) HOb.out (Fx.of_out ((Out.refl 0 0 wc).alloc _)) (fun _ _ z => z)) (by rw [size_alloc]; have := HOX.out.size; omega) ⟨byt_app (l := []) (by intro b hb; cases hb), .inr ⟨wc.heap.size, 0, rfl, fun j x hj => by rw [Nat.zero_add]; exact bl_cells HBY.out (l := [.int .u8 0]) rfl j _ (by match j, hj with | 0, hj => cases hj; rfl | j + 1, hj => simp at hj)⟩⟩ rfl (by omega) (by omega) ?_; intro a3 c3 WR q1 q2 q3; have H1 : Hid (WR.ownsRow Wx.heap.size 5 1 (.slice a3 65537 c3) 65537 (bvs (wrB (0, tsL [zL 4053], oneL) ++ [0]))) := hid_mk q1; have H2 := hid_mk (out_own (HOX.out.trans ((Out.refl 0 0 wc).alloc _)) (own_fx (S := fun _ => False) HOb.out (Fx.of_out ((Out.refl 0 0 wc).alloc _)) (fun _ _ z => z)) q2 (Nat.le_refl _)); clear q1 q2 q3)
            refine (read_any (w := WR) (B := WR.heap.size) (HT.out _ (HO.out.trans H2.out)) (Nat.le_refl _) (ByIn.own (byt_app byt9) H1.out (fun q hq => (own_ge H1.out hq).2)) (by rw [List.length_append, y9.2]; rfl) (own_cap H1.out)).mono ?_
            intro e WS hq
            obtain ⟨o5, rfl⟩ := rd_long hq (by decide)
            have HO5 := hid_mk (H2.out.trans o5)
            clear o5 hq
            have b54 : ∀ W : World, (Instr.makeSlice 23 (.int .i64 4054) (.int .i64 4054)).run Tryd.prog W = .ok (.slice (some ⟨W.heap.size, 0, none⟩) 4054 4054) (W.alloc (.cells (madeCells #[.int .u8 0] 4054) 5)) := run_by 4054 (by decide)
            have hw54 : IntKind.i64.wrap (4053 + 1) = 4054 := by decide
            have hw55 : IntKind.i64.wrap 4054 = 4054 := by decide
            go_upto_region 29 with fail
            obtain ⟨WY, hWY⟩ : ∃ W, WS.alloc (.cells #[.int .i64 0, .slice none 0 0, .slice none 0 0] 35) = W := ⟨_, rfl⟩
            rw [hWY]
            have oXY : Out 0 0 Wx WY := HO5.out.trans (by rw [← hWY]; exact (Out.refl 0 0 WS).alloc _)
            have HYC : Hid (∀ W, Out 0 0 WY W → ∀ (j : Nat) u, xs[j]? = some u → W.cell? ⟨gt, j, none⟩ = some u) := hid_mk fun W o' => HXC.out W (oXY.trans o')
            have HYT := hid_mk (HXT.out.kept oXY)
            have HOY := hid_mk (HO.out.trans oXY)
            clear hWY oXY b53 H1 H2 HOb HOX HBY HXC HXT
            refine wp_region_held_drew (S := fun _ => True) (by kernel_rfl) ?hS37 (fun hHeld => ?rest37)
            case hS37 => trivial
            refine tk 0 ?_
            refine tk 2 ?_
            refine tk 3 ?_
            refine tk 7 ?_
            refine wpAnyH_ready (rs := [1, 4]) (by kernel_rfl) (by simp) ?_
            refine AllReadyH.cons rfl (fun KK hK => ?_) ?_
            · simp only [xa, xb, xc]
              refine step_tx1 (Wx := WY) _ _ rfl rfl rfl (by repeat (first | exact Out.refl 0 0 _ | refine Out.alloc ?_ _ | refine Out.drew ?_)) HYC.out HXL.out HYT.out ?_
              intro a1 c1 WA q1 q2 q3 q4
              have A1 := hid_mk q1
              have A2 := hid_mk q2
              have A3 := hid_mk q3
              have A4 := hid_mk q4
              clear q1 q2 q3 q4
              refine hK.out _ _ ?hS42 (fun hHeld2 => ?rest42)
              case hS42 => trivial
              clear hK KK
              (try clear hHeld)
              have hHeld := hHeld2
              clear hHeld2
              (try simp only [Act.put, xa, xb, xc, xd, xe, xf])
              refine wpAnyH_ready (rs := [4]) (by kernel_rfl) (by simp) ?_
              refine AllReadyH.cons rfl (fun KK hK => ?_) ?_
              · simp only [xa, xb, xc]
                go_simp
                refine hK.out _ _ ?hS43 (fun hHeld2 => ?rest43)
                case hS43 => trivial
                clear hK KK
                (try clear hHeld)
                have hHeld := hHeld2
                clear hHeld2
                (try simp only [Act.put, xa, xb, xc, xd, xe, xf])
                refine wpAnyH_ready (rs := [5]) (by kernel_rfl) (by simp) ?_
                refine AllReadyH.cons rfl (fun KK hK => ?_) ?_
                · simp only [xa, xb, xc]
                  go_simp
                  refine hK.out _ _ ?hS44 (fun hHeld2 => ?rest44)
                  case hS44 => trivial
                  clear hK KK
                  (try clear hHeld)
                  have hHeld := hHeld2
                  clear hHeld2
                  (try simp only [Act.put, xa, xb, xc, xd, xe, xf])
                  refine wpAnyH_ready (rs := [6]) (by kernel_rfl) (by simp) ?_
                  refine AllReadyH.cons rfl (fun KK hK => ?_) ?_
                  · simp only [xa, xb, xc]
                    refine step_tx2 (Wx := WY) (m := 4054) _ _ rfl rfl rfl A1.out A3.out (by repeat (first | exact Out.refl 0 0 _ | refine Out.alloc ?_ _ | refine Out.drew ?_)) A4.out (bl_new1 _ _ _ _) ((Bl.new _ _ _).alloc _) ?_
                    intro a2 c2 WB q1 q2
                    have B1 := hid_mk q1
                    have B2 := hid_mk q2
                    clear q1 q2
                    refine hK.out _ _ ?hS45 (fun hHeld2 => ?rest45)
                    case hS45 => trivial
                    clear hK KK
                    (try clear hHeld)
                    have hHeld := hHeld2
                    clear hHeld2
                    (try simp only [Act.put, xa, xb, xc, xd, xe, xf])
                    refine tk 8 ?_
                    refine wpAnyH_ready (rs := [9]) (by kernel_rfl) (by simp) ?_
                    refine AllReadyH.cons rfl (fun KK hK => ?_) ?_
                    · simp only [xa, xb, xc]
                      go_simp
                      refine (write_any (w := WB) (B := WB.heap.size) (HT.out _ (HOY.out.trans B1.out)) (Nat.le_refl _) 0 (tsL [zL 4054]) oneL a2 (some ⟨g, 0, none⟩) 16 c2 1 1 (ts1_len _) rfl B2.out (one_at (HB.out _ (HOY.out.trans B1.out))) mi_oneL).mono ?_
                      rintro e WC ⟨rb2, K, cpb2, rfl, o, hob, hK⟩
                      rw [n17.2] at hK
                      obtain rfl : 0 = K := hK
                      rw [n17.1]
                      have C1 := hid_mk (HOY.out.trans (B1.out.trans o))
                      clear o hob
                      refine hK.out _ _ ?hS47 (fun hHeld2 => ?rest47)
                      case hS47 => trivial
                      clear hK KK
                      (try clear hHeld)
                      have hHeld := hHeld2
                      clear hHeld2
                      (try simp only [Act.put, xa, xb, xc, xd, xe, xf])
                      refine tk 10 ?_
                      refine tk 11 ?_
                      refine tk 12 ?_
                      refine tk 13 ?_
                      refine tk 14 ?_
                      refine wpAnyH_done (by kernel_rfl) ?_ _
                      go_wp2_with fail
                      refine (alive_any (HT.out _ C1.out)).mono ?_
                      rintro e WE ⟨rfl, o⟩
                      have HOE := hid_mk (HOV.out.trans (C1.out.trans o))
                      clear o
                      go_wp2
                      go_ret
                      exact ⟨rfl, HOE.out⟩
                    · exact AllReadyH.nil
                  · exact AllReadyH.nil
                · exact AllReadyH.nil
              · exact AllReadyH.nil
            · refine AllReadyH.cons rfl (fun KK hK => ?_) ?_
              · simp only [xa, xb, xc]
                go_simp
                refine hK.out _ _ ?hS53 (fun hHeld2 => ?rest53)
                case hS53 => trivial
                clear hK KK
                (try clear hHeld)
                have hHeld := hHeld2
                clear hHeld2
                (try simp only [Act.put, xa, xb, xc, xd, xe, xf])
                refine wpAnyH_ready (rs := [1, 5]) (by kernel_rfl) (by simp) ?_
                refine AllReadyH.cons rfl (fun KK hK => ?_) ?_
                · simp only [xa, xb, xc]
                  refine step_tx1 (Wx := WY) _ _ rfl rfl rfl (by repeat (first | exact Out.refl 0 0 _ | refine Out.alloc ?_ _ | refine Out.drew ?_)) HYC.out HXL.out HYT.out ?_
                  intro a1 c1 WA q1 q2 q3 q4
                  have A1 := hid_mk q1
                  have A2 := hid_mk q2
                  have A3 := hid_mk q3
                  have A4 := hid_mk q4
                  clear q1 q2 q3 q4
                  refine hK.out _ _ ?hS54 (fun hHeld2 => ?rest54)
                  case hS54 => trivial
                  clear hK KK
                  (try clear hHeld)
                  have hHeld := hHeld2
                  clear hHeld2
                  (try simp only [Act.put, xa, xb, xc, xd, xe, xf])
                  refine wpAnyH_ready (rs := [5]) (by kernel_rfl) (by simp) ?_
                  refine AllReadyH.cons rfl (fun KK hK => ?_) ?_
                  · simp only [xa, xb, xc]
                    go_simp
                    refine hK.out _ _ ?hS55 (fun hHeld2 => ?rest55)
                    case hS55 => trivial
                    clear hK KK
                    (try clear hHeld)
                    have hHeld := hHeld2
                    clear hHeld2
                    (try simp only [Act.put, xa, xb, xc, xd, xe, xf])
                    refine wpAnyH_ready (rs := [6]) (by kernel_rfl) (by simp) ?_
                    refine AllReadyH.cons rfl (fun KK hK => ?_) ?_
                    · simp only [xa, xb, xc]
                      refine step_tx2 (Wx := WY) (m := 4054) _ _ rfl rfl rfl A1.out A3.out (by repeat (first | exact Out.refl 0 0 _ | refine Out.alloc ?_ _ | refine Out.drew ?_)) A4.out (Bl.new _ _ _) (((bl_drew (Bl.new _ _ _)).kept A2.out (.inr (Nat.zero_le _))).alloc _) ?_
                      intro a2 c2 WB q1 q2
                      have B1 := hid_mk q1
                      have B2 := hid_mk q2
                      clear q1 q2
                      refine hK.out _ _ ?hS56 (fun hHeld2 => ?rest56)
                      case hS56 => trivial
                      clear hK KK
                      (try clear hHeld)
                      have hHeld := hHeld2
                      clear hHeld2
                      (try simp only [Act.put, xa, xb, xc, xd, xe, xf])
                      refine tk 8 ?_
                      refine wpAnyH_ready (rs := [9]) (by kernel_rfl) (by simp) ?_
                      refine AllReadyH.cons rfl (fun KK hK => ?_) ?_
                      · simp only [xa, xb, xc]
                        go_simp
                        refine (write_any (w := WB) (B := WB.heap.size) (HT.out _ (HOY.out.trans B1.out)) (Nat.le_refl _) 0 (tsL [zL 4054]) oneL a2 (some ⟨g, 0, none⟩) 16 c2 1 1 (ts1_len _) rfl B2.out (one_at (HB.out _ (HOY.out.trans B1.out))) mi_oneL).mono ?_
                        rintro e WC ⟨rb2, K, cpb2, rfl, o, hob, hK⟩
                        rw [n17.2] at hK
                        obtain rfl : 0 = K := hK
                        rw [n17.1]
                        have C1 := hid_mk (HOY.out.trans (B1.out.trans o))
                        clear o hob
                        refine hK.out _ _ ?hS58 (fun hHeld2 => ?rest58)
                        case hS58 => trivial
                        clear hK KK
                        (try clear hHeld)
                        have hHeld := hHeld2
                        clear hHeld2
                        (try simp only [Act.put, xa, xb, xc, xd, xe, xf])
                        refine tk 10 ?_
                        refine tk 11 ?_
                        refine tk 12 ?_
                        refine tk 13 ?_
                        refine tk 14 ?_
                        refine wpAnyH_done (by kernel_rfl) ?_ _
                        go_wp2_with fail
                        refine (alive_any (HT.out _ C1.out)).mono ?_
                        rintro e WE ⟨rfl, o⟩
                        have HOE := hid_mk (HOV.out.trans (C1.out.trans o))
                        clear o
                        go_wp2
                        go_ret
                        exact ⟨rfl, HOE.out⟩
                      · exact AllReadyH.nil
                    · exact AllReadyH.nil
                  · exact AllReadyH.nil
                · refine AllReadyH.cons rfl (fun KK hK => ?_) ?_
                  · simp only [xa, xb, xc]
                    go_simp
                    refine hK.out _ _ ?hS64 (fun hHeld2 => ?rest64)
                    case hS64 => trivial
                    clear hK KK
                    (try clear hHeld)
                    have hHeld := hHeld2
                    clear hHeld2
                    (try simp only [Act.put, xa, xb, xc, xd, xe, xf])
                    refine wpAnyH_ready (rs := [1]) (by kernel_rfl) (by simp) ?_
                    refine AllReadyH.cons rfl (fun KK hK => ?_) ?_
                    · simp only [xa, xb, xc]
                      refine step_tx1 (Wx := WY) _ _ rfl rfl rfl (by repeat (first | exact Out.refl 0 0 _ | refine Out.alloc ?_ _ | refine Out.drew ?_)) HYC.out HXL.out HYT.out ?_
                      intro a1 c1 WA q1 q2 q3 q4
                      have A1 := hid_mk q1
                      have A2 := hid_mk q2
                      have A3 := hid_mk q3
                      have A4 := hid_mk q4
                      clear q1 q2 q3 q4
                      refine hK.out _ _ ?hS65 (fun hHeld2 => ?rest65)
                      case hS65 => trivial
                      clear hK KK
                      (try clear hHeld)
                      have hHeld := hHeld2
                      clear hHeld2
                      (try simp only [Act.put, xa, xb, xc, xd, xe, xf])
                      refine wpAnyH_ready (rs := [6]) (by kernel_rfl) (by simp) ?_
                      refine AllReadyH.cons rfl (fun KK hK => ?_) ?_
                      · simp only [xa, xb, xc]
                        refine step_tx2 (Wx := WY) (m := 4054) _ _ rfl rfl rfl A1.out A3.out (by repeat (first | exact Out.refl 0 0 _ | refine Out.alloc ?_ _ | refine Out.drew ?_)) A4.out ((bl_new1 _ _ _ _).kept A2.out (.inr (Nat.zero_le _))) ((((Bl.new _ _ _).alloc _)).kept A2.out (.inr (Nat.zero_le _))) ?_
                        intro a2 c2 WB q1 q2
                        have B1 := hid_mk q1
                        have B2 := hid_mk q2
                        clear q1 q2
                        refine hK.out _ _ ?hS66 (fun hHeld2 => ?rest66)
                        case hS66 => trivial
                        clear hK KK
                        (try clear hHeld)
                        have hHeld := hHeld2
                        clear hHeld2
                        (try simp only [Act.put, xa, xb, xc, xd, xe, xf])
                        refine tk 8 ?_
                        refine wpAnyH_ready (rs := [9]) (by kernel_rfl) (by simp) ?_
                        refine AllReadyH.cons rfl (fun KK hK => ?_) ?_
                        · simp only [xa, xb, xc]
                          go_simp
                          refine (write_any (w := WB) (B := WB.heap.size) (HT.out _ (HOY.out.trans B1.out)) (Nat.le_refl _) 0 (tsL [zL 4054]) oneL a2 (some ⟨g, 0, none⟩) 16 c2 1 1 (ts1_len _) rfl B2.out (one_at (HB.out _ (HOY.out.trans B1.out))) mi_oneL).mono ?_
                          rintro e WC ⟨rb2, K, cpb2, rfl, o, hob, hK⟩
                          rw [n17.2] at hK
                          obtain rfl : 0 = K := hK
                          rw [n17.1]
                          have C1 := hid_mk (HOY.out.trans (B1.out.trans o))
                          clear o hob
                          refine hK.out _ _ ?hS68 (fun hHeld2 => ?rest68)
                          case hS68 => trivial
                          clear hK KK
                          (try clear hHeld)
                          have hHeld := hHeld2
                          clear hHeld2
                          (try simp only [Act.put, xa, xb, xc, xd, xe, xf])
                          refine tk 10 ?_
                          refine tk 11 ?_
                          refine tk 12 ?_
                          refine tk 13 ?_
                          refine tk 14 ?_
                          refine wpAnyH_done (by kernel_rfl) ?_ _
                          go_wp2_with fail
                          refine (alive_any (HT.out _ C1.out)).mono ?_
                          rintro e WE ⟨rfl, o⟩
                          have HOE := hid_mk (HOV.out.trans (C1.out.trans o))
                          clear o
                          go_wp2
                          go_ret
                          exact ⟨rfl, HOE.out⟩
                        · exact AllReadyH.nil
                      · exact AllReadyH.nil
                    · exact AllReadyH.nil
                  · exact AllReadyH.nil
              · exact AllReadyH.nil
end Go.Proofs.YthijkfcobkdihaaDoor
