import Derived.Test.YtcnjlbjpeklgkaaGreatDoorR37
import Derived.Test.YtcnjlbjpeklgkaaGreatDoorR34
import Derived.Test.YtcnjlbjpeklgkaaGreatDoorR35
namespace Go.Proofs.YtcnjlbjpeklgkaaGreatDoor
set_option linter.unusedVariables false
set_option linter.unusedSimpArgs false

instance d1 : DecidableEq InF := inferInstanceAs (DecidableEq (Int × Int))
instance d2 : DecidableEq (Int × List InF) := inferInstance
instance d3 : DecidableEq (Int × Int × List InF) := inferInstance
instance d4 : DecidableEq FnF := inferInstanceAs (DecidableEq (Int × Int × Int × List InF))
instance d5 : DecidableEq (List (List Int) × List FnF) := inferInstance
instance d6 : DecidableEq PrF := inferInstanceAs (DecidableEq (Int × List (List Int) × List FnF))
theorem rep_ne (k : Nat) (h : 0 < k) (c : Int) : List.replicate k c ≠ [] := by
  cases k with
  | zero => omega
  | succ k => rw [List.replicate_succ]; exact List.cons_ne_nil _ _
theorem lnsA_rest (x : List Int) (hx : (10 : Int) ∉ x) : ∀ l, lnsA l x = if l ++ x = [] then [] else [l ++ x] := by
  induction x with
  | nil => intro l; simp [lnsA]
  | cons c x ih =>
    intro l
    simp only [List.mem_cons, not_or] at hx
    simp only [lnsA]
    rw [if_neg (fun e => hx.1 e.symm), ih hx.2]
    simp
theorem lns_two (a x : List Int) (ha : (10 : Int) ∉ a) (hx : (10 : Int) ∉ x) (hn : x ≠ []) : lnsF (a ++ 10 :: x) = [a, x] := by
  unfold lnsF
  rw [lnsA_row a ha, lnsA_rest x hx]
  simp [hn]
theorem lnsA_ends (k : Nat) : lnsA [] (List.replicate k 10) = List.replicate k [] := by
  induction k with
  | zero => rfl
  | succ k ih =>
    rw [List.replicate_succ, List.replicate_succ]
    simp only [lnsA, if_true, ih]
theorem ws_blankT (k : Nat) : wsF (List.replicate k 32) = some [] := by
  have h := ws_ahead (List.replicate k 32) (fun c hc => by rw [List.eq_of_mem_replicate hc]; rfl) []
  rw [List.append_nil] at h
  rw [h]
  rfl
theorem run_empty (pl : Int → Bool) (l : List (List Int)) (h : ∀ s ∈ l, wsF s = some []) : ∀ (m : MkF) (i : Nat), m.run pl i l = m := by
  induction l with
  | nil => intro m i; rfl
  | cons s l ih =>
    intro m i
    simp only [MkF.run]
    rw [line_empty pl m i s (h s (by simp))]
    exact ih (fun t ht => h t (by simp [ht])) m (i + 1)
/-- a head, and lines without words -/
theorem head_asm (wr : PrF → Int) (t : List Int) (l : List (List Int)) (hl : lnsF t = byS "func 0 0 0" :: l) (h : ∀ s ∈ l, wsF s = some []) (h1 : t.length ≤ 1048576) (h2 : l.length + 1 ≤ 100000) (hw : wr (0, [], [(0, 0, 0, [])]) = 0) : asmF plO wr t = ((0, [], [(0, 0, 0, [])]), 0, 0) := by
  refine asm_of wr t (0, [], [(0, 0, 0, [])]) true true _ hl h1 (by simpa using h2) ?_ hw
  simp only [MkF.run]
  rw [zero_eq, fn0_step _ 0 [] [] false false rfl, run_empty plO l h]
  rfl
theorem head_in : byS "func 0 0 0\n" = byS "func 0 0 0" ++ [10] := by decide +kernel
theorem head_no : (10 : Int) ∉ byS "func 0 0 0" := by decide +kernel
theorem head_len : (byS "func 0 0 0").length = 10 := by decide +kernel
theorem full_asm (wr : PrF → Int) (hw : wr (0, [], [(0, 0, 0, [])]) = 0) : asmF plO wr (byS "func 0 0 0\n" ++ List.replicate 1048565 32) = ((0, [], [(0, 0, 0, [])]), 0, 0) := by
  refine head_asm wr _ [List.replicate 1048565 32] ?_ ?_ ?_ (show 1 + 1 ≤ 100000 by omega) hw
  · rw [head_in, List.append_assoc]
    refine lns_two _ _ head_no ?_ ?_
    · intro h
      have := List.eq_of_mem_replicate h
      omega
    · exact rep_ne _ (by omega) _
  · intro s hs
    rw [List.mem_singleton.mp hs]
    exact ws_blankT _
  · rw [head_in]
    simp only [List.length_append, List.length_cons, List.length_nil, List.length_replicate, head_len]
    omega
theorem long_asm (pl : Int → Bool) (wr : PrF → Int) (t : List Int) (h : 1048576 < t.length) : asmF pl wr t = ((0, [], []), 0, 2) := by
  unfold asmF
  rw [if_pos (.inl h)]
theorem many_asm (pl : Int → Bool) (wr : PrF → Int) (t : List Int) (h : 100000 < (lnsF t).length) : asmF pl wr t = ((0, [], []), 0, 2) := by
  unfold asmF
  rw [if_pos (.inr h)]
theorem rows_lns (k : Nat) : lnsF (byS "func 0 0 0\n" ++ List.replicate k 10) = byS "func 0 0 0" :: List.replicate k [] := by
  rw [head_in, List.append_assoc]
  have e : [10] ++ List.replicate k (10 : Int) = 10 :: List.replicate k 10 := rfl
  unfold lnsF
  rw [e, lnsA_row _ head_no, lnsA_ends]
  rfl
theorem rows_asm (wr : PrF → Int) (hw : wr (0, [], [(0, 0, 0, [])]) = 0) : asmF plO wr (byS "func 0 0 0\n" ++ List.replicate 99999 10) = ((0, [], [(0, 0, 0, [])]), 0, 0) := by
  refine head_asm wr _ _ (rows_lns 99999) ?_ ?_ ?_ hw
  · intro s hs
    rw [List.eq_of_mem_replicate hs]
    rfl
  · rw [head_in]
    simp only [List.length_append, List.length_cons, List.length_nil, List.length_replicate, head_len]
    omega
  · rw [List.length_replicate]
    omega
theorem rows_more (pl : Int → Bool) (wr : PrF → Int) : asmF pl wr (byS "func 0 0 0\n" ++ List.replicate 100000 10) = ((0, [], []), 0, 2) := by
  refine many_asm pl wr _ ?_
  rw [rows_lns, List.length_cons, List.length_replicate]
  omega
/-- too many globals; no function -/
theorem form_asm (wr : PrF → Int) (t : List Int) (p : PrF) (h1 : t.length ≤ 1048576) (h2 : (lnsF t).length ≤ 100000) (hb : (MkF.zero.run plO 1 (lnsF t)).ends.bad = 0) (he : (MkF.zero.run plO 1 (lnsF t)).ends.prog = p) (hw : wr p ≠ 0) : asmF plO wr t = ((0, [], []), 0, wr p) := by
  unfold asmF
  rw [he, if_neg (by omega), if_neg (by omega), if_pos hw]
theorem g65_asm (wr : PrF → Int) (hw : wr (65, [], [(0, 0, 0, [])]) = 62) : asmF plO wr (byS "globals 65\nfunc 0 0 0\n") = ((0, [], []), 0, 62) := by
  have h := form_asm wr (byS "globals 65\nfunc 0 0 0\n") (65, [], [(0, 0, 0, [])]) (by decide +kernel) (by decide +kernel) (by decide +kernel) (by decide +kernel) (by rw [hw]; decide)
  rw [h, hw]
theorem g64_asm (wr : PrF → Int) (hw : wr (64, [], []) = 62) : asmF plO wr (byS "globals 64\n") = ((0, [], []), 0, 62) := by
  have h := form_asm wr (byS "globals 64\n") (64, [], []) (by decide +kernel) (by decide +kernel) (by decide +kernel) (by decide +kernel) (by rw [hw]; decide)
  rw [h, hw]
/-- alive's text -/
theorem alive_asm (wr : PrF → Int) (hw : wr (0, [], [(0, 0, 0, [(1, 5), (19, 0)])]) = 0) : asmF plO wr (byS "func 0 0 0\n\tfix 5\n\treturn\n") = ((0, [], [(0, 0, 0, [(1, 5), (19, 0)])]), 0, 0) := by
  have h1 : (byS "func 0 0 0\n\tfix 5\n\treturn\n").length ≤ 1048576 := by decide +kernel
  have h2 : (lnsF (byS "func 0 0 0\n\tfix 5\n\treturn\n")).length ≤ 100000 := by decide +kernel
  have hb : (MkF.zero.run plO 1 (lnsF (byS "func 0 0 0\n\tfix 5\n\treturn\n"))).ends.bad = 0 := by decide +kernel
  have he : (MkF.zero.run plO 1 (lnsF (byS "func 0 0 0\n\tfix 5\n\treturn\n"))).ends.prog = (0, [], [(0, 0, 0, [(1, 5), (19, 0)])]) := by decide +kernel
  unfold asmF
  rw [he, if_neg (by omega), if_neg (by omega), if_neg (by rw [hw]; simp)]
end Go.Proofs.YtcnjlbjpeklgkaaGreatDoor
namespace Go.Proofs.YtcnjlbjpeklgkaaGreatDoor
open Go.RowKit
set_option linter.unusedVariables false
set_option linter.unusedSimpArgs false

/-- all that is laid -/
def Gx (w : World) : Prop := Gm w ∧ Nt w ∧ Ty w ∧ Tpw w ∧ 9 ≤ w.heap.size
theorem Gx.out {w w' : World} (h : Gx w) (o : Out 0 0 w w') : Gx w' := ⟨h.1.out o, h.2.1.out o, h.2.2.1.out o (.inr rfl), h.2.2.2.1.out o, Nat.le_trans h.2.2.2.2 o.size⟩
theorem assemble_all (t : ByteArray) {w : World} (h : Gx w) : Calls Tryz.prog 19 #[.string t] w (AsmQ w t) :=
  assemble_any t w h.1 h.2.1 h.2.2.1 h.2.2.2.2 fun y hw hs => char_any vd_any y hw hs
/-- a program in memory, wherever it lies below B -/
def PgIn (w : World) (B : Nat) (v : Value) (p : PrF) : Prop := ∃ ta tc fa fc, v = .agg #[.int .i64 p.1, .slice ta p.2.1.length tc, .slice fa p.2.2.length fc] ∧ TxIn w B ta p.2.1 ∧ FnIn w B fa p.2.2
theorem PgIn.out {w w' : World} {B : Nat} {v : Value} {p : PrF} (h : PgIn w B v p) (o : Out 0 0 w w') : PgIn w' B v p := by
  obtain ⟨ta, tc, fa, fc, rfl, h1, h2⟩ := h
  exact ⟨ta, tc, fa, fc, rfl, h1.kept (Lo.of_out (B := B) o) (Nat.le_refl _), h2.kept (Lo.of_out (B := B) o) (Nat.le_refl _)⟩
theorem pr_in {w : World} {lo : Nat} {v : Value} {p : PrF} (h : PrAt w lo v p) : PgIn w w.heap.size v p := by
  obtain ⟨ta, tc, fa, fc, nt, nf, vs, cs, rfl, rfl, rfl, h1, h2, _, h3, h4⟩ := h
  exact ⟨ta, tc, fa, fc, rfl, TL.tx (zs := []) h2 (by rw [List.append_nil]; exact h1), CL.fn (zs := []) h4 (by rw [List.append_nil]; exact h3)⟩
theorem print_all {w : World} {B : Nat} {v : Value} {p : PrF} (h : Gx w) (hB : B ≤ w.heap.size) (hp : PgIn w B v p) (hM : ∀ f ∈ p.2.2, MI f.2.2.2) : Calls Tryz.prog 18 #[v] w (PrQ w p) := by
  obtain ⟨ta, tc, fa, fc, rfl, h1, h2⟩ := hp
  exact print_any h.2.2.1 h.2.2.2.1 h.2.1 hB h.2.2.2.2 p.1 p.2.1 p.2.2 ta fa _ tc _ fc rfl rfl h1 h2 hM
/-- a text of which is known what it says -/
theorem asm_known {w : World} {t : ByteArray} {x : Int} {ts : List (List Int)} {fs : List FnF} {k : Nat} {er : Int} (nt nf : Nat) (hq : asmF plO wrE (bt t) = ((x, ts, fs), k, er)) (hnt : ts.length = nt) (hnf : fs.length = nf) (h : Gx w) : Calls Tryz.prog 19 #[.string t] w fun e w' => Out 0 0 w w' ∧ ∃ ta tc fa fc, e = .returned (.tuple #[.agg #[.int .i64 x, .slice ta nt tc, .slice fa nf fc], .int .i64 (k : Int), .int .i64 er]) ∧ TxIn w' w'.heap.size ta ts ∧ FnIn w' w'.heap.size fa fs := by
  refine (assemble_all t h).mono fun e w' ⟨o, v, hv, he⟩ => ⟨o, ?_⟩
  rw [hq] at hv he
  obtain ⟨ta, tc, fa, fc, rfl, h1, h2⟩ := pr_in hv
  exact ⟨ta, tc, fa, fc, by rw [he]; subst hnt hnf; rfl, h1, h2⟩
def alP : PrF := (0, [], [(0, 0, 0, [(1, 5), (19, 0)])])
def alS : ByteArray := ⟨#[102, 117, 110, 99, 32, 48, 32, 48, 32, 48, 10, 9, 102, 105, 120, 32, 53, 10, 9, 114, 101, 116, 117, 114, 110, 10]⟩
theorem al_ok : okP alP := by
  refine ⟨by decide, by decide, by intro t ht; simp [alP] at ht, by decide, ?_⟩
  intro f hf
  simp [alP] at hf
  subst hf
  refine ⟨by decide, by decide, by decide, by decide, ?_⟩
  intro x hx
  simp at hx
  rcases hx with rfl | rfl <;> (refine ⟨by decide, by decide, by decide, by decide, by decide⟩)
theorem al_len : (encP alP).length ≤ 65536 := by decide +kernel
theorem al_wr : wrE alP = 0 := (wr_ok al_ok al_len).1
theorem al_bt : bt alS = byS "func 0 0 0\n\tfix 5\n\treturn\n" := by decide +kernel
theorem al_asm : asmF plO wrE (bt alS) = (alP, 0, 0) := by rw [al_bt]; exact alive_asm wrE al_wr
theorem al_prt : prtF plO alP = bt alS := by decide +kernel
theorem al_mi : ∀ f ∈ alP.2.2, MI f.2.2.2 := by
  intro f hf
  simp [alP] at hf
  subst hf
  intro x hx
  simp at hx
  rcases hx with rfl | rfl <;> decide
set_option maxRecDepth 100000 in
set_option maxHeartbeats 4000000 in
theorem alive25 {w : World} (h : Gx w) : Calls Tryz.prog 13 #[] w fun e w' => e = .returned (.bool true) ∧ Out 0 0 w w' := by
  have HG := hid_mk h
  have HA := hid_mk (asm_known (x := 0) (ts := []) (fs := [(0, 0, 0, [(1, 5), (19, 0)])]) 0 1 al_asm rfl rfl h)
  clear h
  go_enter Tryz.func13, Tryz.ntmps13
  go_wp2_with (go_at_call 19; refine HA.out.mono ?_; rintro e w1 ⟨o1, ta, tc, fa, fc, rfl, h1, h2⟩)
  have o2 := o1.alloc (.cells #[.int .i64 0, .slice ta 0 tc, .slice fa 1 fc] 32)
  have HO2 := hid_mk o2
  have hb := Bl.new w1 #[.int .i64 0, .slice ta 0 tc, .slice fa 1 fc] 32
  have HB := hid_mk hb
  have HF := hid_mk (h2.kept (Lo.of_out (B := w1.heap.size) ((Out.refl 0 0 w1).alloc (.cells #[.int .i64 0, .slice ta 0 tc, .slice fa 1 fc] 32))) (Nat.le_refl _))
  have k0 := hb.cell (i := 0) rfl
  have k1 := hb.cell (i := 1) rfl
  have k2 := hb.cell (i := 2) rfl
  obtain ⟨W1, hW1⟩ : ∃ W1, w1.alloc (.cells #[.int .i64 0, .slice ta 0 tc, .slice fa 1 fc] 32) = W1 := ⟨_, rfl⟩
  rw [hW1] at HO2 HB HF k0 k1 k2
  obtain ⟨b, hb2⟩ : ∃ b, w1.heap.size = b := ⟨_, rfl⟩
  rw [hb2] at HB HF k0 k1 k2
  have hs1 : W1.heap.size = b + 1 := by rw [← hW1, size_alloc, hb2]
  have HP := hid_mk (print_any (B := b) (HG.out.out HO2.out).2.2.1 (HG.out.out HO2.out).2.2.2.1 (HG.out.out HO2.out).2.1 (by omega) (HG.out.out HO2.out).2.2.2.2 0 [] [(0, 0, 0, [(1, 5), (19, 0)])] ta fa 0 tc 1 fc rfl rfl (.inl rfl) HF.out al_mi)
  clear o1 o2 hb h1 h2 hs1
  rw [hW1]
  (try rw [hb2])
  clear hW1 hb2
  go_at_call 18
  refine HP.out.mono ?_
  rintro e w2 ⟨s, hs, _, he, o3⟩
  have hs2 := hs al_wr
  rw [show ((0, [], [(0, 0, 0, [(1, 5), (19, 0)])]) : PrF) = alP from rfl, al_prt] at hs2
  obtain rfl := bt_inj hs2
  rw [show wrE ((0, [], [(0, 0, 0, [(1, 5), (19, 0)])]) : PrF) = 0 from al_wr] at he
  subst he
  have m0 := o3.cell k0 (.inr (Nat.zero_le _))
  have m1 := o3.cell k1 (.inr (Nat.zero_le _))
  have m2 := o3.cell k2 (.inr (Nat.zero_le _))
  obtain ⟨g, off, rfl, _, hc⟩ : ∃ g off, fa = some ⟨g, off, none⟩ ∧ g < b ∧ ∃ pj cj, w2.cell? ⟨g, off, none⟩ = some (.int .i64 0) ∧ w2.cell? ⟨g, off + 1, none⟩ = some (.int .i64 0) ∧ w2.cell? ⟨g, off + 2, none⟩ = some (.int .i64 0) ∧ w2.cell? ⟨g, off + 3, none⟩ = some (.slice pj 2 cj) := by
    rcases HF.out with q | ⟨g, off, h1, h2, h3⟩
    · cases q
    · obtain ⟨pj, cj, c0, c1, c2, c3, _⟩ := h3 0 _ rfl
      rw [Nat.zero_mul, Nat.add_zero] at c0 c1 c2 c3
      exact ⟨g, off, h1, h2, pj, cj, o3.cell c0 (.inr (Nat.zero_le _)), o3.cell c1 (.inr (Nat.zero_le _)), o3.cell c2 (.inr (Nat.zero_le _)), o3.cell c3 (.inr (Nat.zero_le _))⟩
  obtain ⟨pj, cj, c0, c1, c2, c3⟩ := hc
  have HO3 := hid_mk (HO2.out.trans o3)
  clear o3 hs hs2 k0 k1 k2 HP
  go_wp2
  go_ret
  refine ⟨congrArg (fun b => Ending.returned (.bool b)) ?_, HO3.out⟩
  rw [ByteArray.toList_eq]
  rfl
end Go.Proofs.YtcnjlbjpeklgkaaGreatDoor
