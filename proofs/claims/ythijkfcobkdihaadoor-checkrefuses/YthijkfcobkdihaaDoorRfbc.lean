/- the law CheckRefuses: rows of instructions, refusal -/
import Derived.Test.YthijkfcobkdihaaDoorRfa
namespace Go.Proofs.YthijkfcobkdihaaDoor
open Go.RowKit
set_option linter.unusedVariables false
set_option linter.unusedSimpArgs false

theorem info_ins : (Tryd.prog.info? 28).map (fun i => (i.zero, i.size, i.bytes)) = some (some (.agg #[.int .i64 0, .int .i64 0]), 2, 16) := by kernel_rfl
theorem info_func : (Tryd.prog.info? 31).map (fun i => (i.zero, i.size, i.bytes)) = some (some (.agg #[.int .i64 0, .int .i64 0, .int .i64 0, .slice none 0 0]), 4, 48) := by kernel_rfl
theorem ics_len : ∀ (l : List (Int × Int)), (ics l).length = l.length * 2
  | [] => rfl
  | x :: l => by simp only [ics, List.length_cons, ics_len l]; omega
theorem ics_app : ∀ (l m : List (Int × Int)), ics (l ++ m) = ics l ++ ics m
  | [], m => rfl
  | x :: l, m => by simp only [List.cons_append, ics, ics_app l m]
theorem ics_one : ∀ {l : List (Int × Int)}, ∀ u ∈ ics l, u.oneCell' = true
  | [], u, h => by cases h
  | x :: l, u, h => by
    simp only [ics, List.mem_cons] at h
    rcases h with rfl | rfl | h
    · rfl
    · rfl
    · exact ics_one u h
/-- some things more in a row of one's own -/
theorem app_many {T E : TypeId} {z : Value} {sz by_ : Nat} (hT : Tryd.prog.underlying T = some (.slice E)) (hinf : (Tryd.prog.info? E).map (fun i => (i.zero, i.size, i.bytes)) = some (some z, sz, by_)) (hz : z.cells.size = sz) (hsz : 0 < sz) (hby : by_ ≤ 1000) {w : World} {base K cap vb m c : Nat} {ta : Option Addr} {xs ys : List Value} (hown : w.ownsRow base E sz (.slice ta K cap) K xs) (hbase : base ≤ w.heap.size) (hv : Bl w vb ys.toArray E) (hl : ys.length = m * sz) (h1 : ∀ u ∈ ys, u.oneCell' = true) (hK : K ≤ 100000) (hm : 0 < m) (hm2 : m ≤ 1000) (ty : TypeId) :
    ∃ a' cap' w', (Builtin.append_ #[T, T] ty #[.slice ta K cap, .slice (some ⟨vb, 0, none⟩) m c]).run Tryd.prog w = .ok (.slice a' (K + m) cap') w' ∧ w'.ownsRow base E sz (.slice a' (K + m) cap') (K + m) (xs ++ ys) ∧ Fx (fun k => (Value.slice ta K cap).ownBlock = some k) w w' ∧
      ((Value.slice a' (K + m) cap').ownBlock = (Value.slice ta K cap).ownBlock ∨ (Value.slice a' (K + m) cap').ownBlock = some w.heap.size) := by
  obtain ⟨i0, hi0, hz0, hz1, hz2⟩ := info_p hinf
  obtain ⟨g4, cap', w', hrun, hown', hgrow, hat, _⟩ := run_append_lies (P := Tryd.prog) w T ty base E i0 z sz by_ hT hi0 hz0 hz1 hz2 hz hsz (.slice ta K cap) K xs hown ⟨vb, 0, none⟩ m c ys (by rw [hl]) (by
      intro j u hj
      rw [Addr.add_lit, Nat.zero_add]
      exact hv.cell (by rw [List.getElem?_toArray]; exact hj)) h1 hm (by unfold maxLen; omega) (by
      have : (K + m) * by_ ≤ 101000 * 1000 := Nat.mul_le_mul (by omega) hby
      omega) hbase w.heap.size rfl
  refine ⟨some ⟨g4, 0, none⟩, cap', w', hrun, hown', ⟨hgrow.os, hgrow.tape, hgrow.output, hgrow.size, fun k h1 h2 => hgrow.block k h1 (fun e => h2 e.symm)⟩, ?_⟩
  rcases hat with h | h
  · exact .inl h.symm
  · exact .inr (by rw [h]; rfl)
/-- instructions more, as a step of a plain region -/
theorem app_ins {ops : Array Oper} {rest : List Oper} {o : Oper} {ac : Go.Act} {w : World} {Q : Exit → Go.Act → World → Prop} (hgd : o.guard = none) (sx yy : Operand)
    (ho : o.op = .call { callee := .builtin .append, args := #[sx, yy], argTypes := #[29, 29] }) {base K cap vb m c : Nat} {ta : Option Addr} {l y : List (Int × Int)} {cs : Array Value} (hs : ac.eval sx = .slice ta K cap) (hyy : ac.eval yy = .slice (some ⟨vb, 0, none⟩) m c)
    (hown : w.ownsRow base 28 2 (.slice ta K cap) K (ics l)) (hbase : base ≤ w.heap.size) (hv : Bl w vb cs 28) (hcs : cs = (ics y).toArray) (hl : y.length = m) (hK : K ≤ 100000) (hm : 0 < m) (hm2 : m ≤ 1000)
    (h : ∀ a' cap' w', w'.ownsRow base 28 2 (.slice a' (K + m) cap') (K + m) (ics (l ++ y)) → Fx (fun k => (Value.slice ta K cap).ownBlock = some k) w w' →
      ((Value.slice a' (K + m) cap').ownBlock = (Value.slice ta K cap).ownBlock ∨ (Value.slice a' (K + m) cap').ownBlock = some w.heap.size) → wpList Tryd.prog ops Q rest (ac.put o.dst (.slice a' (K + m) cap')) w') : wpList Tryd.prog ops Q (o :: rest) ac w :=
  wpList_plain hgd fun _ hK' => by
    obtain ⟨a', cap', w', hr, h2, h3, h4⟩ := app_many (c := c) Tryd.underlying29 info_ins rfl (by decide) (by decide) hown hbase (hcs ▸ hv) (by rw [ics_len, hl]) ics_one hK hm hm2 o.type
    unfold Oper.wp execOp
    simp only [ho, resolve, invoke, builtin, Sem.run_bind, Sem.run_pure, Result.andThen_ok, List.map_toArray, List.map_cons, List.map_nil, hs, hyy, hr]
    exact hK' _ _ (h a' cap' w' (by rw [ics_app]; exact h2) h3 h4)
theorem in_own {w : World} {base K cap : Nat} {ta : Option Addr} {l : List (Int × Int)} (h : w.ownsRow base 28 2 (.slice ta K cap) K (ics l)) : l.length = K ∧ InIn w w.heap.size ta l := by
  have h0 := h.1
  rw [ics_len] at h0
  refine ⟨by omega, ?_⟩
  rcases h.2 with ⟨h1, h2⟩ | ⟨g, c, cur, h1, h2, h3, h4, h5, h6, h7⟩
  · exact .inl (List.eq_nil_of_length_eq_zero (by omega))
  · cases h1
    have B : Bl w g cur 28 := h3
    refine .inr ⟨g, 0, rfl, B.lt, fun j x hj => ?_⟩
    have hlt := (List.getElem?_eq_some_iff.1 hj).1
    obtain ⟨c1, c2⟩ := ics_at hj
    rw [← h7] at c1 c2
    rw [List.getElem?_take_of_lt (by omega)] at c1 c2
    rw [Nat.zero_add]
    exact ⟨B.cell (by simpa using c1), B.cell (by simpa using c2)⟩
/-- the code and the function beside it -/
def CS (w0 w : World) (F : Nat) (ta : Option Addr) (K cap : Nat) (l : List (Int × Int)) : Prop := w.ownsRow w0.heap.size 28 2 (.slice ta K cap) K (ics l) ∧ Bl w F #[.int .i64 0, .int .i64 2, .int .i64 0, .slice none 0 0] 31 ∧ (Value.slice ta K cap).ownBlock ≠ some F ∧ Out 0 0 w0 w ∧ w0.heap.size ≤ F
theorem CS.app {w0 w W w2 : World} {F : Nat} {ta a' : Option Addr} {K cap K' cap' : Nat} {l l' : List (Int × Int)} (h : CS w0 w F ta K cap l) (hW : Out 0 0 w W) (h1 : w2.ownsRow w0.heap.size 28 2 (.slice a' K' cap') K' (ics l')) (h2 : Fx (fun k => (Value.slice ta K cap).ownBlock = some k) W w2) (h3 : (Value.slice a' K' cap').ownBlock = (Value.slice ta K cap).ownBlock ∨ (Value.slice a' K' cap').ownBlock = some W.heap.size) : CS w0 w2 F a' K' cap' l' := by
  obtain ⟨a1, a2, a3, a4, a5⟩ := h
  have hF := a2.lt
  have hs := hW.size
  refine ⟨h1, (a2.kept hW (.inr (Nat.zero_le _))).fx h2 a3, ?_, out_lo (dg := w0.heap.size) (a4.trans hW) (h2.wide fun k _ hk => (own_ge a1 hk).1) (Nat.le_refl _), a5⟩
  rcases h3 with e | e
  · rw [e]; exact a3
  · rw [e]; intro q; cases q; omega
theorem CS.nil {w0 w : World} {F : Nat} {ta : Option Addr} {K cap : Nat} {l : List (Int × Int)} (h : CS w0 w F ta K cap l) : CS w0 w F none 0 0 [] := ⟨World.ownsRow_nil _ _ _ 2, h.2.1, (by intro q; cases q), h.2.2.2⟩
theorem app_cs {ops : Array Oper} {rest : List Oper} {o : Oper} {ac : Go.Act} {w0 w W : World} {Q : Exit → Go.Act → World → Prop} {F : Nat} (hgd : o.guard = none) (sx yy : Operand)
    (ho : o.op = .call { callee := .builtin .append, args := #[sx, yy], argTypes := #[29, 29] }) {K cap vb m c : Nat} {ta : Option Addr} {l : List (Int × Int)} (y : List (Int × Int)) {cs : Array Value} (hs : ac.eval sx = .slice ta K cap) (hyy : ac.eval yy = .slice (some ⟨vb, 0, none⟩) m c)
    (h0 : CS w0 w F ta K cap l) (hW : Out 0 0 w W) (hv : Bl W vb cs 28) (hcs : cs = (ics y).toArray) (hl : y.length = m) (hK : K ≤ 100000) (hm : 0 < m) (hm2 : m ≤ 1000)
    (h : ∀ a' cap' w', CS w0 w' F a' (K + m) cap' (l ++ y) → wpList Tryd.prog ops Q rest (ac.put o.dst (.slice a' (K + m) cap')) w') : wpList Tryd.prog ops Q (o :: rest) ac W :=
  app_ins hgd sx yy ho hs hyy (own_fx (S := fun _ => False) h0.1 (Fx.of_out hW) (fun _ _ z => z)) (Nat.le_trans h0.2.2.2.1.size hW.size) hv hcs hl hK hm hm2 fun a' cap' w' z1 z2 z3 => h a' cap' w' (h0.app hW z1 z2 z3)
/-- two functions in a row -/
theorem fn_two {w : World} {base cap n c : Nat} {a pa : Option Addr} {s : Nat} {P C : Int} {l : List (Int × Int)} (h : w.ownsRow base 31 4 (.slice a 2 cap) 2 [.int .i64 P, .int .i64 2, .int .i64 C, .slice pa n c, .int .i64 1, .int .i64 1, .int .i64 2, .slice (some ⟨s, 0, none⟩) 2 2]) (hn : l.length = n) (hp : InIn w w.heap.size pa l) (hs : Bl w s (ics [(6, 0), (19, 0)]).toArray 28) : FnIn w w.heap.size a (reF P C l) := by
  rcases h.2 with ⟨h1, h2⟩ | ⟨g, c', cur, h1, h2, h3, h4, h5, h6, h7⟩
  · omega
  · cases h1
    have B : Bl w g cur 31 := h3
    have hc : ∀ (j : Nat) v, [Value.int .i64 P, .int .i64 2, .int .i64 C, .slice pa n c, .int .i64 1, .int .i64 1, .int .i64 2, .slice (some ⟨s, 0, none⟩) 2 2][j]? = some v → w.cell? ⟨g, j, none⟩ = some v := fun j v hj => by
      have hlt := (List.getElem?_eq_some_iff.1 hj).1
      simp only [List.length_cons, List.length_nil] at hlt
      rw [← h7, List.getElem?_take_of_lt (by omega)] at hj
      exact B.cell (by simpa using hj)
    refine .inr ⟨g, 0, rfl, B.lt, fun j f hj => ?_⟩
    match j, hj with
    | 0, hj =>
      cases hj
      exact ⟨pa, c, hc 0 _ rfl, hc 1 _ rfl, hc 2 _ rfl, by rw [hn]; exact hc 3 _ rfl, hp⟩
    | 1, hj =>
      cases hj
      exact ⟨some ⟨s, 0, none⟩, 2, hc 4 _ rfl, hc 5 _ rfl, hc 6 _ rfl, hc 7 _ rfl, in_new hs⟩
    | j + 2, hj => simp [reF] at hj
theorem tx_one {w : World} {g t : Nat} (h1 : Bl w g #[.int .u8 65] 5) (h2 : Bl w t #[.slice (some ⟨g, 0, none⟩) 1 1] 23) : TxIn w w.heap.size (some ⟨t, 0, none⟩) [[65]] := by
  refine .inr ⟨t, 0, rfl, h2.lt, fun j x hj => ?_⟩
  match j, hj with
  | 0, hj =>
    cases hj
    refine ⟨some ⟨g, 0, none⟩, 1, h2.cell rfl, ?_, .inr ⟨g, 0, rfl, h1.lt, fun j x hj => ?_⟩⟩
    · intro b hb; simp at hb; subst hb; omega
    · match j, hj with
      | 0, hj => cases hj; exact h1.cell rfl
      | j + 1, hj => simp at hj
  | j + 1, hj => simp at hj
end Go.Proofs.YthijkfcobkdihaaDoor
namespace Go.Proofs.YthijkfcobkdihaaDoor
open Go.RowKit
set_option linter.unusedVariables false

theorem FnIn.low {w : World} {B C : Nat} {p : Option Addr} {fs : List (Int × Int × Int × List (Int × Int))} (h : FnIn w B p fs) (hx : B ≤ C) : FnIn w C p fs := by
  rcases h with h | ⟨g, off, h1, h2, h3⟩
  · exact .inl h
  · refine .inr ⟨g, off, h1, by omega, fun j f hj => ?_⟩
    obtain ⟨pj, cj, c1, c2, c3, c4, c5⟩ := h3 j f hj
    refine ⟨pj, cj, c1, c2, c3, c4, ?_⟩
    rcases c5 with c5 | ⟨g', o', d1, d2, d3⟩
    · exact .inl c5
    · exact .inr ⟨g', o', d1, by omega, d3⟩
theorem InIn.low1 {w : World} {B C : Nat} {p : Option Addr} {l : List (Int × Int)} (h : InIn w B p l) (hx : B ≤ C) : InIn w C p l := by
  rcases h with h | ⟨g, off, h1, h2, h3⟩
  · exact .inl h
  · exact .inr ⟨g, off, h1, by omega, h3⟩
theorem fn_one {s : Nat} : ∀ u ∈ ([.int .i64 1, .int .i64 1, .int .i64 2, .slice (some ⟨s, 0, none⟩) 2 2] : List Value), u.oneCell' = true := by
  intro u hu
  simp only [List.mem_cons, List.not_mem_nil, or_false] at hu
  rcases hu with rfl | rfl | rfl | rfl <;> rfl
set_option maxRecDepth 100000 in
set_option maxHeartbeats 4000000 in
theorem refusal_any {w : World} (hT : Ty w) {P C : Int} {l : List (Int × Int)} {pa : Option Addr} {n c : Nat} (hn : l.length = n) (hp : InIn w w.heap.size pa l) (hM : ∀ f ∈ reF P C l, MI f.2.2.2) {e : Int} {k i : Nat} (hck : ckV (1, [[65]], reF P C l) = .inl (e, k, i)) :
    Calls Tryd.prog 21 #[.agg #[.int .i64 P, .int .i64 2, .int .i64 C, .slice pa n c], .int .i64 1] w fun e' w' => e' = .returned (.tuple #[.int .i64 e, .int .i64 k, .int .i64 i]) ∧ Out 0 0 w w' := by
  obtain ⟨b, hb⟩ : ∃ b, w.heap.size = b := ⟨_, rfl⟩
  obtain ⟨V, hV⟩ : ∃ V, (w.alloc (.cells #[.int .i64 P, .int .i64 2, .int .i64 C, .slice pa n c] 31)).alloc (.cells #[.int .i64 P, .int .i64 2, .int .i64 C, .slice pa n c] 31) = V := ⟨_, rfl⟩
  have oV : Out 0 0 w V := by rw [← hV]; exact ((Out.refl 0 0 w).alloc _).alloc _
  have B1 : Bl V (b + 1) #[.int .i64 P, .int .i64 2, .int .i64 C, .slice pa n c] 31 := by
    rw [← hV]
    have := Bl.new (w.alloc (.cells #[.int .i64 P, .int .i64 2, .int .i64 C, .slice pa n c] 31)) #[.int .i64 P, .int .i64 2, .int .i64 C, .slice pa n c] 31
    rwa [size_alloc, hb] at this
  have HOw : Hid (V.ownsRow (b + 1) 31 4 (.slice (some ⟨b + 1, 0, none⟩) 1 1) 1 [.int .i64 P, .int .i64 2, .int .i64 C, .slice pa n c]) := hid_mk ⟨rfl, .inr ⟨b + 1, 1, _, rfl, Nat.le_refl _, B1, Nat.le_refl _, by unfold maxLen; decide, rfl, rfl⟩⟩
  have HO := hid_mk oV
  have HB1 := hid_mk B1
  have HT := hid_mk hT
  have HH := hid_mk (And.intro hn (And.intro hp (And.intro hM (And.intro hck hb))))
  clear hT hn hp hM hck oV B1
  go_enter Tryd.func21, Tryd.ntmps21
  go_wp2_with fail
  (try rw [hV])
  (try rw [hb])
  clear hV hb
  go_loopw [7, 8] (fun lv iv wr => (iv = .int .i64 0 ∧ lv = .slice (some ⟨b + 1, 0, none⟩) 1 1 ∧ wr = V) ∨ (iv = .int .i64 1 ∧ ∃ a' cap', lv = .slice a' 2 cap' ∧ FnIn wr wr.heap.size a' (reF P C l) ∧ Out 0 0 w wr)) (fun _ iv _ => (1 - intOf iv).toNat)
  case atStart => exact .inl ⟨rfl, rfl, rfl⟩
  case round =>
    rcases hrel with ⟨rfl, rfl, rfl⟩ | ⟨rfl, a', cap', rfl, hf, ho⟩
    · have o1 : Out 0 0 wr ((wr.alloc (.cells #[.int .i64 6, .int .i64 0, .int .i64 19, .int .i64 0] 28)).alloc (.cells #[.int .i64 1, .int .i64 1, .int .i64 2, .slice (some ⟨wr.heap.size, 0, none⟩) 2 2] 31)) := ((Out.refl 0 0 wr).alloc _).alloc _
      have HB2 : Hid (Bl ((wr.alloc (.cells #[.int .i64 6, .int .i64 0, .int .i64 19, .int .i64 0] 28)).alloc (.cells #[.int .i64 1, .int .i64 1, .int .i64 2, .slice (some ⟨wr.heap.size, 0, none⟩) 2 2] 31)) (wr.heap.size + 1) #[.int .i64 1, .int .i64 1, .int .i64 2, .slice (some ⟨wr.heap.size, 0, none⟩) 2 2] 31 ∧ Bl ((wr.alloc (.cells #[.int .i64 6, .int .i64 0, .int .i64 19, .int .i64 0] 28)).alloc (.cells #[.int .i64 1, .int .i64 1, .int .i64 2, .slice (some ⟨wr.heap.size, 0, none⟩) 2 2] 31)) wr.heap.size #[.int .i64 6, .int .i64 0, .int .i64 19, .int .i64 0] 28) := hid_mk (by
        have := Bl.new (wr.alloc (.cells #[.int .i64 6, .int .i64 0, .int .i64 19, .int .i64 0] 28)) #[.int .i64 1, .int .i64 1, .int .i64 2, .slice (some ⟨wr.heap.size, 0, none⟩) 2 2] 31
        rw [size_alloc] at this
        exact ⟨this, (Bl.new _ _ _).alloc _⟩)
      have HO1 := hid_mk o1
      clear o1
      go_wp2_with (at_builtin; refine app_put Tryd.underlying32 info_func rfl (by decide) (by decide) rfl _ _ rfl rfl rfl (own_fx (S := fun _ => False) HOw.out (Fx.of_out HO1.out) (fun _ _ z => z)) (by have := HB1.out.lt; have := HO1.out.size; omega) (ys := [.int .i64 1, .int .i64 1, .int .i64 2, .slice (some ⟨wr.heap.size, 0, none⟩) 2 2]) HB2.out.1 rfl fn_one (by omega) ?_; intro a' cap' w2 q1 q2 q3; have H1 := hid_mk q1; have H2 := hid_mk q2; clear q1 q2 q3)
      have hw : w.heap.size = b := HH.out.2.2.2.2
      have hbb := HB1.out.lt
      have hfx : Fx (fun z => z = b + 1) ((wr.alloc (.cells #[.int .i64 6, .int .i64 0, .int .i64 19, .int .i64 0] 28)).alloc (.cells #[.int .i64 1, .int .i64 1, .int .i64 2, .slice (some ⟨wr.heap.size, 0, none⟩) 2 2] 31)) w2 := H2.out.wide fun z _ hz => (Option.some.inj hz).symm
      have o2 : Out 0 0 w w2 := out_lo (dg := b + 1) (HO.out.trans HO1.out) (hfx.wide fun z _ hz => by omega) (by omega)
      refine ⟨.inr ⟨rfl, a', cap', rfl, fn_two (s := wr.heap.size) H1.out HH.out.1 ((HH.out.2.1.kept (C := w.heap.size) (Lo.of_out o2) (Nat.le_refl _)).low1 o2.size) (HB2.out.2.fx hfx (by omega)), o2⟩, by simp [intOf]⟩
    · have o1 : Out 0 0 wr ((wr.alloc (.cells #[.int .u8 65] 5)).alloc (.cells #[.slice (some ⟨wr.heap.size, 0, none⟩) 1 1] 23)) := ((Out.refl 0 0 wr).alloc _).alloc _
      have B2 := Bl.new (wr.alloc (.cells #[.int .u8 65] 5)) #[.slice (some ⟨wr.heap.size, 0, none⟩) 1 1] 23
      rw [size_alloc] at B2
      have B3 := (Bl.new wr #[.int .u8 65] 5).alloc (.cells #[.slice (some ⟨wr.heap.size, 0, none⟩) 1 1] 23)
      have HCk := hid_mk (check_any (HT.out.out (ho.trans o1) (.inr rfl)) (Nat.le_refl _) 1 [[65]] (reF P C l) (some ⟨wr.heap.size + 1, 0, none⟩) a' 1 1 2 cap' rfl rfl (tx_one B3 B2) ((hf.kept (C := wr.heap.size) (Lo.of_out o1) (Nat.le_refl _)).low o1.size) HH.out.2.2.1)
      rw [HH.out.2.2.2.1] at HCk
      have HO2 := hid_mk (ho.trans o1)
      clear o1 B2 B3 hf ho
      go_wp2_with fail
      refine HCk.out.mono ?_
      rintro e' w3 ⟨o3, ⟨S, Ds, sv, dv, dgs, z1, rfl, z2⟩ | ⟨er, f, i', z1, rfl⟩⟩
      · cases z1
      · cases z1
        have HO3 := hid_mk (HO2.out.trans o3)
        clear o3 HCk
        go_wp2
        go_ret3
        exact ⟨rfl, HO3.out.alloc _⟩
end Go.Proofs.YthijkfcobkdihaaDoor
