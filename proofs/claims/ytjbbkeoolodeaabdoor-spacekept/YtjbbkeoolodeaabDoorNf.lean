import Derived.Test.YtjbbkeoolodeaabDoorNe
namespace Go.Proofs.YtjbbkeoolodeaabDoor
open Go.RowKit
set_option linter.unusedVariables false
set_option linter.unusedSimpArgs false

/-- a slice of n elements of k ints -/
def ElAt (w : World) (v : Value) (n k : Nat) (f : Nat → Nat → Int) : Prop := ∃ o c, v = .slice o n c ∧ (0 < n → ∃ g, o = some ⟨g, 0, none⟩ ∧ ∀ j i, j < n → i < k → w.cell? ⟨g, j * k + i, none⟩ = some (.int .i64 (f j i)))
theorem ElAt.quiet {w w' : World} {v : Value} {n k : Nat} {f : Nat → Nat → Int} (h : ElAt w v n k f) (o : Out 0 0 w w') : ElAt w' v n k f := by
  obtain ⟨a, c, e, h⟩ := h
  refine ⟨a, c, e, fun hn => ?_⟩
  obtain ⟨g, hg, hc⟩ := h hn
  exact ⟨g, hg, fun j i hj hi => o.cell (hc j i hj hi) (.inr (Nat.zero_le _))⟩
theorem el_of {w : World} {base k n : Nat} {T : TypeId} {v : Value} {xs : List Value} {f : Nat → Nat → Int} (h : w.ownsRow base T k v n xs) (hx : ∀ j i, j < n → i < k → xs[j * k + i]? = some (.int .i64 (f j i))) : ElAt w v n k f := by
  obtain ⟨h1, h2⟩ := h
  rcases h2 with ⟨rfl, rfl⟩ | ⟨g, cap, cur, rfl, h3, h4, h5, h6, h7, h8⟩
  · exact ⟨_, _, rfl, fun h => by omega⟩
  · refine ⟨_, _, rfl, fun _ => ⟨g, rfl, fun j i hj hi => ?_⟩⟩
    have hu := hx j i hj hi
    rw [← h8] at hu
    have hlt : j * k + i < n * k := by
      have : j * k + k ≤ n * k := by rw [← Nat.succ_mul]; exact Nat.mul_le_mul_right k hj
      omega
    have : cur[j * k + i]? = some (.int .i64 (f j i)) := by simpa [List.getElem?_take, hlt] using hu
    simp [World.cell?, h4, this]
end Go.Proofs.YtjbbkeoolodeaabDoor
namespace Go.Proofs.YtjbbkeoolodeaabDoor
open Go.RowKit
set_option linter.unusedVariables false
set_option linter.unusedSimpArgs false

theorem ScrAt.mono {w : World} {b b' : Nat} {p : Option Addr} {os : List OpQ} (h : ScrAt w b p os) (hb : b ≤ b') : ScrAt w b' p os := by
  refine ⟨h.1, ?_⟩
  rcases h.2 with e | ⟨g, off, h1, h2, h3⟩
  · exact .inl e
  · refine .inr ⟨g, off, h1, by omega, fun j o hj => ?_⟩
    obtain ⟨x, lp, lc, c0, c1, c2, c3, c4, c5, c6⟩ := h3 j o hj
    refine ⟨x, lp, lc, c0, c1, c2, c3, c4, c5, c6.1, ?_⟩
    rcases c6.2 with e | ⟨g', off', k1, k2, k3⟩
    · exact .inl e
    · exact .inr ⟨g', off', k1, by omega, k3⟩
def fW (st : Sp) (j _i : Nat) : Int := st.W j
def fP (st : Sp) (j i : Nat) : Int := fld (st.S ((j * 3 + i) / 3)) ((j * 3 + i) % 3)
def fO (l : List (Nat × Blk)) (j i : Nat) : Int := if i = 0 then ((atB l j).1 : Int) else if i = 1 then (atB l j).2.1 else if i = 2 then (atB l j).2.2.1 else if i = 3 then (atB l j).2.2.2.1 else (atB l j).2.2.2.2
theorem bks_at : ∀ (l : List (Nat × Blk)) (j i : Nat), j < l.length → i < 5 → (bks l)[j * 5 + i]? = some (.int .i64 (fO l j i))
  | [], j, i, hj, _ => by simp at hj
  | q :: l, 0, i, _, hi => by
    have : i = 0 ∨ i = 1 ∨ i = 2 ∨ i = 3 ∨ i = 4 := by omega
    rcases this with rfl | rfl | rfl | rfl | rfl <;> rfl
  | q :: l, j + 1, i, hj, hi => by
    have ih := bks_at l j i (by simpa using hj) hi
    have e : fO (q :: l) (j + 1) i = fO l j i := by unfold fO atB; simp
    rw [bks_cons, e, show (j + 1) * 5 + i = (j * 5 + i) + 5 from by omega]
    simpa using ih
/-- a dump, by its parts -/
theorem dumpE {w : World} {lo hi n cap : Nat} {s : Nat → Nat} {st : Sp} (h : SpAt w lo hi s n cap st) :
    Calls Tryd.prog 16 #[.pointer (some ⟨s 14, 0, none⟩)] w fun e w' => ∃ (o0 o1 o2 : Option Addr) (c0 c1 c2 : Nat) (h0 h1 h2 h3 h4 h5 h6 h7 : Int), e = .returned (.agg #[.slice o0 (64 * n) c0, .slice o1 n c1, .slice o2 (objsTo (rawOf n st) (64 * n)).length c2, .int .i64 h0, .int .i64 h1, .int .i64 h2, .int .i64 h3, .int .i64 h4, .int .i64 h5, .int .i64 h6, .int .i64 h7, .int .i64 st.last]) ∧
      ElAt w' (.slice o0 (64 * n) c0) (64 * n) 1 (fW st) ∧ ElAt w' (.slice o1 n c1) n 3 (fP st) ∧ ElAt w' (.slice o2 (objsTo (rawOf n st) (64 * n)).length c2) (objsTo (rawOf n st) (64 * n)).length 5 (fO (objsTo (rawOf n st) (64 * n))) ∧ Out 0 0 w w' := by
  refine (dump_any h.1 (told_of st)).mono ?_
  rintro e w' ⟨gw, cw, gp, cp, vb, rfl, ⟨d1, d2, d3, _⟩, ho⟩
  obtain ⟨o2, c2, rfl⟩ := own_form d3
  refine ⟨_, _, o2, cw, cp, c2, _, _, _, _, _, _, _, _, rfl, el_of d1 fun j i hj hi => ?_, ?_, el_of d3 fun j i hj hi => bks_at _ j i hj hi, ho⟩
  · have : i = 0 := by omega
    subst this
    simp [hj, fW, rawOf]
  · have d2' : w'.ownsRow w.heap.size 54 3 (.slice (some ⟨gp, 0, none⟩) n cp) n (pgs (pgl st.S n)) := by
      have := d2
      unfold ListIs at this
      rw [pgl_len] at this
      exact this
    refine el_of d2' fun j i hj hi => ?_
    rw [pgs_cell st.S n (by omega)]
    rfl
/-- a copy of a list of ints among the arguments -/
theorem copyI_run (w : World) (ty : TypeId) {b : Nat} {p : Option Addr} {L : List Int} {cp : Nat} (hL : SlI w b p L) (hl : L.length ≤ 400) (hp : L = [] → p = none ∨ ∃ a, p = some a) :
    ∃ o c w', (Builtin.append_ #[27, 27] ty #[.slice none 0 0, .slice p L.length cp]).run Tryd.prog w = .ok (.slice o L.length c) w' ∧ IntsIs w' o L ∧ Out 0 0 w w' := by
  obtain ⟨i0, hi0, hz0, hz1, hz2⟩ := info_parts info_i64
  by_cases h0 : L = []
  · subst h0
    cases p with
    | none =>
      refine ⟨none, 0, w, ?_, .inl rfl, Out.refl _ _ _⟩
      simp [Builtin.append_, run_underlying Tryd.underlying27, sizeOf, typeInfo, hi0, Builtin.lenOf, Builtin.firstCells, loadCells, loadCellsFrom]
    | some ad =>
      obtain ⟨v', w', hrun, r1, r2, r3⟩ := run_append_own (P := Tryd.prog) w w.heap.size 27 ty 3 i0 (.int .i64 0) 1 8 Tryd.underlying27 hi0 hz0 hz1 hz2 rfl (by decide) (.slice none 0 0) 0 [] (World.ownsRow_nil w _ _ 1) ad 0 cp [] rfl (fun j u hj => by simp at hj) (fun u hu => by cases hu) (by unfold maxLen; omega) (by omega) (Nat.le_refl _)
      obtain ⟨o, c, rfl⟩ := own_form r1
      exact ⟨o, c, w', hrun, .inl rfl, ⟨r2.os, r2.tape, r2.output, r2.size, fun k hk _ => r2.block k hk (by simp [Value.ownBlock])⟩⟩
  · rcases hL.2 with e | ⟨g, off, rfl, hgb, hcell⟩
    · exact absurd e h0
    obtain ⟨v', w', hrun, r1, r2, r3⟩ := run_append_own (P := Tryd.prog) w w.heap.size 27 ty 3 i0 (.int .i64 0) 1 8 Tryd.underlying27 hi0 hz0 hz1 hz2 rfl (by decide) (.slice none 0 0) 0 [] (World.ownsRow_nil w _ _ 1) ⟨g, off, none⟩ L.length cp (ivs L) (by simp [ivs])
      (fun j u hj => by
        have hj' : j < L.length := by have := (List.getElem?_eq_some_iff.1 hj).1; simpa [ivs] using this
        have e : L[j]? = some L[j] := List.getElem?_eq_getElem hj'
        have : u = .int .i64 L[j] := by unfold ivs at hj; rw [List.getElem?_map, e] at hj; simpa using hj.symm
        rw [this, Addr.add_lit]
        exact hcell j _ e)
      (fun u hu => by
        unfold ivs at hu
        obtain ⟨x, _, rfl⟩ := List.mem_map.1 hu
        rfl) (by unfold maxLen; omega) (by omega) (Nat.le_refl _)
    rw [Nat.zero_add, List.nil_append] at r1
    obtain ⟨o, c, rfl⟩ := own_form r1
    exact ⟨o, c, w', hrun, ints_of rfl r1, ⟨r2.os, r2.tape, r2.output, r2.size, fun k hk _ => r2.block k hk (by simp [Value.ownBlock])⟩⟩
theorem copyI_step {ops : Array Oper} {o : Oper} {a : Act} {w : World} {K : Act → World → Prop} {Q : Exit → Act → World → Prop} {E : Prop} (hgd : o.guard = none) (x : Operand)
    (ho : o.op = .call { callee := .builtin .append, args := #[.const (.slice none 0 0), x], argTypes := #[27, 27] })
    {b : Nat} {p : Option Addr} {L : List Int} {cp : Nat} (hx : a.eval x = .slice p L.length cp) (hL : SlI w b p L) (hl : L.length ≤ 400)
    (h : ∀ o' c w', Out 0 0 w w' → IntsIs w' o' L → K (a.put o.dst (.slice o' L.length c)) w') :
    if Region.wanted o (yielded ops a.tmps) = true then Oper.wp Tryd.prog o a w K Q else E := by
  have hw : Region.wanted o (yielded ops a.tmps) = true := by simp [Region.wanted, hgd]
  rw [if_pos hw]
  obtain ⟨o', c, w', hrun, r1, r2⟩ := copyI_run w o.type (cp := cp) hL hl (fun _ => by cases p <;> simp)
  have hs : a.eval (.const (.slice none 0 0)) = .slice none 0 0 := rfl
  unfold Oper.wp
  simp [execOp, ho, resolve, invoke, builtin, hs, hx, hrun, Result.andThen]
  exact h o' c w' r2 r1
theorem field_w (v1 v2 v3 v4 v5 v6 v7 v8 v9 va vb : Value) (o : Option Addr) (n c : Nat) (w : World) : (Instr.field 46 (.agg #[.slice o n c, v1, v2, v3, v4, v5, v6, v7, v8, v9, va, vb]) 0).run Tryd.prog w = .ok (.slice o n c) w := by
  kernel_rfl
end Go.Proofs.YtjbbkeoolodeaabDoor
