/- package check: the functions of a program -/
import Derived.Test.YthijkfcobkdihaaDoorCkm
namespace Go.Proofs.YthijkfcobkdihaaDoor
open Go.RowKit
set_option linter.unusedVariables false
set_option linter.unusedSimpArgs false

/-- one thing more in a row of one's own -/
theorem app_one {T E : TypeId} {z : Value} {sz by_ : Nat} (hT : Tryd.prog.underlying T = some (.slice E)) (hinf : (Tryd.prog.info? E).map (fun i => (i.zero, i.size, i.bytes)) = some (some z, sz, by_)) (hz : z.cells.size = sz) (hsz : 0 < sz) (hby : by_ ≤ 1000) {w : World} {base K cap vb : Nat} {ta : Option Addr} {xs ys : List Value} (hown : w.ownsRow base E sz (.slice ta K cap) K xs) (hbase : base ≤ w.heap.size) (hv : Bl w vb ys.toArray E) (hl : ys.length = sz) (h1 : ∀ u ∈ ys, u.oneCell' = true) (hK : K ≤ 100000) (ty : TypeId) :
    ∃ a' cap' w', (Builtin.append_ #[T, T] ty #[.slice ta K cap, .slice (some ⟨vb, 0, none⟩) 1 1]).run Tryd.prog w = .ok (.slice a' (K + 1) cap') w' ∧ w'.ownsRow base E sz (.slice a' (K + 1) cap') (K + 1) (xs ++ ys) ∧ Fx (fun k => (Value.slice ta K cap).ownBlock = some k) w w' ∧
      ((Value.slice a' (K + 1) cap').ownBlock = (Value.slice ta K cap).ownBlock ∨ (Value.slice a' (K + 1) cap').ownBlock = some w.heap.size) := by
  obtain ⟨i0, hi0, hz0, hz1, hz2⟩ := info_p hinf
  obtain ⟨g4, cap', w', hrun, hown', hgrow, hat, _⟩ := run_append_lies (P := Tryd.prog) w T ty base E i0 z sz by_ hT hi0 hz0 hz1 hz2 hz hsz (.slice ta K cap) K xs hown ⟨vb, 0, none⟩ 1 1 ys (by rw [hl, Nat.one_mul]) (by
      intro j u hj
      rw [Addr.add_lit, Nat.zero_add]
      exact hv.cell (by rw [List.getElem?_toArray]; exact hj)) h1 (by omega) (by unfold maxLen; omega) (by
      have : (K + 1) * by_ ≤ 100001 * 1000 := Nat.mul_le_mul (by omega) hby
      omega) hbase w.heap.size rfl
  refine ⟨some ⟨g4, 0, none⟩, cap', w', hrun, hown', ⟨hgrow.os, hgrow.tape, hgrow.output, hgrow.size, fun k h1 h2 => hgrow.block k h1 (fun e => h2 e.symm)⟩, ?_⟩
  rcases hat with h | h
  · exact .inl h.symm
  · exact .inr (by rw [h]; rfl)
/-- .. as a step of a plain region -/
theorem app_put {T E : TypeId} {z : Value} {sz by_ : Nat} (hT : Tryd.prog.underlying T = some (.slice E)) (hinf : (Tryd.prog.info? E).map (fun i => (i.zero, i.size, i.bytes)) = some (some z, sz, by_)) (hz : z.cells.size = sz) (hsz : 0 < sz) (hby : by_ ≤ 1000) {ops : Array Oper} {rest : List Oper} {o : Oper} {ac : Go.Act} {w : World} {Q : Exit → Go.Act → World → Prop} (hgd : o.guard = none) (sx yy : Operand)
    (ho : o.op = .call { callee := .builtin .append, args := #[sx, yy], argTypes := #[T, T] }) {base K cap vb : Nat} {ta : Option Addr} {xs ys : List Value} (hs : ac.eval sx = .slice ta K cap) (hyy : ac.eval yy = .slice (some ⟨vb, 0, none⟩) 1 1)
    (hown : w.ownsRow base E sz (.slice ta K cap) K xs) (hbase : base ≤ w.heap.size) (hv : Bl w vb ys.toArray E) (hl : ys.length = sz) (h1 : ∀ u ∈ ys, u.oneCell' = true) (hK : K ≤ 100000)
    (h : ∀ a' cap' w', w'.ownsRow base E sz (.slice a' (K + 1) cap') (K + 1) (xs ++ ys) → Fx (fun k => (Value.slice ta K cap).ownBlock = some k) w w' →
      ((Value.slice a' (K + 1) cap').ownBlock = (Value.slice ta K cap).ownBlock ∨ (Value.slice a' (K + 1) cap').ownBlock = some w.heap.size) → wpList Tryd.prog ops Q rest (ac.put o.dst (.slice a' (K + 1) cap')) w') : wpList Tryd.prog ops Q (o :: rest) ac w :=
  wpList_plain hgd fun _ hK' => by
    obtain ⟨a', cap', w', hr, h2, h3, h4⟩ := app_one hT hinf hz hsz hby hown hbase hv hl h1 hK o.type
    unfold Oper.wp execOp
    simp only [ho, resolve, invoke, builtin, Sem.run_bind, Sem.run_pure, Result.andThen_ok, List.map_toArray, List.map_cons, List.map_nil, hs, hyy, hr]
    exact hK' _ _ (h a' cap' w' h2 h3 h4)
/-- the cells of a function by its number -/
def fnC (x : Int) (ta : Option Addr) (nt tc : Nat) (fa : Option Addr) (nf fc : Nat) (f : Int × Int × Int × List (Int × Int)) (pj : Option Addr) (cj : Nat) (j : Nat) : List Value := [.int .i64 f.1, .int .i64 f.2.1, .int .i64 f.2.2.1, .slice pj f.2.2.2.length cj, .int .i64 j, .int .i64 x, .slice ta nt tc, .slice fa nf fc]
/-- the row of the first m functions -/
def FnL (w : World) (B : Nat) (fs : List (Int × Int × Int × List (Int × Int))) (x : Int) (ta : Option Addr) (nt tc : Nat) (fa : Option Addr) (nf fc : Nat) (m : Nat) (xs : List Value) : Prop := xs.length = m * 8 ∧ ∀ (j : Nat) f, j < m → fs[j]? = some f → ∃ pj cj, (xs.drop (j * 8)).take 8 = fnC x ta nt tc fa nf fc f pj cj j ∧ InIn w B pj f.2.2.2
theorem FnL.kept {w w' : World} {B : Nat} {fs : List (Int × Int × Int × List (Int × Int))} {x : Int} {ta : Option Addr} {nt tc : Nat} {fa : Option Addr} {nf fc m : Nat} {xs : List Value} (h : FnL w B fs x ta nt tc fa nf fc m xs) (o : Lo B w w') : FnL w' B fs x ta nt tc fa nf fc m xs :=
  ⟨h.1, fun j f h1 h2 => by obtain ⟨pj, cj, h3, h4⟩ := h.2 j f h1 h2; exact ⟨pj, cj, h3, h4.kept o (Nat.le_refl _)⟩⟩
theorem FnL.up {w : World} {B : Nat} {fs : List (Int × Int × Int × List (Int × Int))} {x : Int} {ta : Option Addr} {nt tc : Nat} {fa : Option Addr} {nf fc m : Nat} {xs : List Value} (h : FnL w B fs x ta nt tc fa nf fc m xs) {f : Int × Int × Int × List (Int × Int)} (hf : fs[m]? = some f) {pj : Option Addr} {cj : Nat} (hp : InIn w B pj f.2.2.2) : FnL w B fs x ta nt tc fa nf fc (m + 1) (xs ++ fnC x ta nt tc fa nf fc f pj cj m) := by
  have hl : (fnC x ta nt tc fa nf fc f pj cj m).length = 8 := rfl
  refine ⟨by rw [List.length_append, hl, h.1]; omega, fun j f' h1 h2 => ?_⟩
  by_cases hj : j < m
  · obtain ⟨pj', cj', h3, h4⟩ := h.2 j f' hj h2
    refine ⟨pj', cj', ?_, h4⟩
    rw [List.drop_append_of_le_length (by rw [h.1]; omega), List.take_append_of_le_length (by rw [List.length_drop, h.1]; omega)]
    exact h3
  · obtain rfl : j = m := by omega
    rw [hf] at h2
    cases h2
    refine ⟨pj, cj, ?_, hp⟩
    rw [List.drop_append_of_le_length (by rw [h.1]; omega), List.drop_of_length_le (by rw [h.1]; omega), List.nil_append]
    rfl
theorem info_fn : (Tryd.prog.info? 83).map (fun i => (i.zero, i.size, i.bytes)) = some (some (.agg #[.int .i64 0, .int .i64 0, .int .i64 0, .slice none 0 0, .int .i64 0, .int .i64 0, .slice none 0 0, .slice none 0 0]), 8, 112) := by kernel_rfl
theorem fnC_one {x : Int} {ta : Option Addr} {nt tc : Nat} {fa : Option Addr} {nf fc : Nat} {f : Int × Int × Int × List (Int × Int)} {pj : Option Addr} {cj j : Nat} : ∀ u ∈ fnC x ta nt tc fa nf fc f pj cj j, u.oneCell' = true := by
  intro u hu
  unfold fnC at hu
  simp only [List.mem_cons, List.not_mem_nil, or_false] at hu
  rcases hu with rfl | rfl | rfl | rfl | rfl | rfl | rfl | rfl <;> rfl
theorem fn_cells {w : World} {B j : Nat} {fa : Option Addr} {fs : List (Int × Int × Int × List (Int × Int))} {f : Int × Int × Int × List (Int × Int)} (h : FnIn w B fa fs) (hx : fs[j]? = some f) : ∃ q off pj cj, fa = some ⟨q, off, none⟩ ∧ q < B ∧ w.cell? ⟨q, off + j * 4, none⟩ = some (.int .i64 f.1) ∧ w.cell? ⟨q, off + j * 4 + 1, none⟩ = some (.int .i64 f.2.1) ∧ w.cell? ⟨q, off + j * 4 + 2, none⟩ = some (.int .i64 f.2.2.1) ∧ w.cell? ⟨q, off + j * 4 + 3, none⟩ = some (.slice pj f.2.2.2.length cj) ∧ InIn w B pj f.2.2.2 := by
  rcases h with h | ⟨q, off, h1, h2, h3⟩
  · rw [h] at hx; simp at hx
  · obtain ⟨pj, cj, c1, c2, c3, c4, c5⟩ := h3 j _ hx
    exact ⟨q, off, pj, cj, h1, h2, c1, c2, c3, c4, c5⟩
set_option maxRecDepth 100000 in
set_option maxHeartbeats 2000000 in
theorem functions_any {w : World} {B : Nat} (x : Int) (ta : Option Addr) (nt tc : Nat) (fa : Option Addr) (nf fc : Nat) {fs : List (Int × Int × Int × List (Int × Int))} (hfs : FnIn w B fa fs) (hnf : fs.length = nf) (hB : B ≤ w.heap.size) (hn : nf ≤ 64) :
    Calls Tryd.prog 39 #[.agg #[.int .i64 x, .slice ta nt tc, .slice fa nf fc]] w fun e w' => ∃ ra rc xs, e = .returned (.slice ra nf rc) ∧ w'.ownsRow w.heap.size 83 8 (.slice ra nf rc) nf xs ∧ FnL w' B fs x ta nt tc fa nf fc nf xs ∧ Out 0 0 w w' := by
  obtain ⟨b, hb⟩ : ∃ b, w.heap.size = b := ⟨_, rfl⟩
  obtain ⟨V, hV⟩ : ∃ V, w.alloc (.cells #[.int .i64 x, .slice ta nt tc, .slice fa nf fc] 35) = V := ⟨_, rfl⟩
  have oV : Out 0 0 w V := by rw [← hV]; exact (Out.refl 0 0 w).alloc _
  have B0 : Bl V b #[.int .i64 x, .slice ta nt tc, .slice fa nf fc] 35 := by rw [← hV, ← hb]; exact Bl.new _ _ _
  have HB0 := hid_mk B0
  have HO := hid_mk oV
  have HH := hid_mk (And.intro hfs (And.intro hnf (And.intro hB hn)))
  have HBZ : Hid (w.heap.size = b) := hid_mk hb
  have k2 := B0.cell (i := 2) rfl
  clear hn hfs hnf hB oV B0
  go_enter Tryd.func39, Tryd.ntmps39
  go_wp2_with fail
  (try rw [hV])
  (try rw [hb])
  clear hV hb
  go_wp2
  clear k2
  go_loopw [3, 9] (fun a c wr => ∃ (m : Nat) (ra : Option Addr) (rc : Nat) (xs : List Value), c = .int .i64 m ∧ m ≤ nf ∧ a = .slice ra m rc ∧ wr.ownsRow (b + 1) 83 8 (.slice ra m rc) m xs ∧ FnL wr B fs x ta nt tc fa nf fc m xs ∧ Bl wr b #[.int .i64 x, .slice ta nt tc, .slice fa nf fc] 35 ∧ Out 0 0 w wr) (fun _ c _ => nf - (intOf c).toNat)
  case atStart => exact ⟨0, none, 0, [], rfl, Nat.zero_le _, rfl, World.ownsRow_nil _ _ _ 8, ⟨rfl, fun j f h => absurd h (Nat.not_lt_zero _)⟩, HB0.out, HO.out⟩
  case round =>
    obtain ⟨m, ra, rc, xs, rfl, hm, rfl, hown, hL, hB, ho⟩ := hrel
    have HOw := hid_mk hown
    have HL := hid_mk hL
    have HBB := hid_mk hB
    have HO1 := hid_mk ho
    by_cases hgo : m < nf
    · obtain ⟨l1, l2⟩ := lt_dec hgo
      obtain ⟨hfs, hnf, hBs, hn64⟩ := HH.out
      obtain ⟨f, hf⟩ : ∃ f, fs[m]? = some f := ⟨_, List.getElem?_eq_getElem (by omega)⟩
      obtain ⟨q, off, pj, cj, rfl, hq, c0, c1, c2, c3, c4⟩ := fn_cells (hfs.kept (Lo.of_out ho) (Nat.le_refl _)) hf
      have hbl := hB.lt
      have hwz := up_w hgo (by omega)
      have hin : (m : Int) < (nf : Int) := by omega
      have k0 := hB.cell (i := 0) rfl
      have k1 := hB.cell (i := 1) rfl
      have k2 := hB.cell (i := 2) rfl
      have HF := hid_mk (And.intro hf (And.intro c4 (And.intro hgo hbl)))
      have HV8 : Hid (Bl ((wr.alloc (.cells #[.int .i64 f.1, .int .i64 f.2.1, .int .i64 f.2.2.1, .slice pj f.2.2.2.length cj] 31)).alloc (.cells (fnC x ta nt tc (some ⟨q, off, none⟩) nf fc f pj cj m).toArray 83)) (wr.heap.size + 1) (fnC x ta nt tc (some ⟨q, off, none⟩) nf fc f pj cj m).toArray 83) := hid_mk (by
        have := Bl.new (wr.alloc (.cells #[.int .i64 f.1, .int .i64 f.2.1, .int .i64 f.2.2.1, .slice pj f.2.2.2.length cj] 31)) (fnC x ta nt tc (some ⟨q, off, none⟩) nf fc f pj cj m).toArray 83
        rwa [size_alloc] at this)
      clear hown hL hB ho hgo hfs hnf hBs hn64 hf hq c4
      go_wp2_with (at_builtin; refine app_put Tryd.underlying80 info_fn rfl (by decide) (by decide) rfl _ _ rfl rfl rfl (own_fx (S := fun _ => False) HOw.out (Fx.of_out (((Out.refl 0 0 wr).alloc _).alloc _)) (fun _ _ z => z)) (by rw [size_alloc, size_alloc]; have := HF.out.2.2.2; omega) HV8.out rfl fnC_one (by have := HH.out.2.2.2; have := HF.out.2.2.1; omega) ?_; intro a' cap' w2 q1 q2 q3; have H1 := hid_mk q1; have H2 := hid_mk q2; clear q1 q2 q3)
      have hfx : Fx (fun z => (Value.slice ra m rc).ownBlock = some z) wr w2 := (Fx.of_out (((Out.refl 0 0 wr).alloc _).alloc _)).trans H2.out
      have hge : ∀ z, (Value.slice ra m rc).ownBlock = some z → b + 1 ≤ z := fun z hz => (own_ge HOw.out hz).1
      refine ⟨⟨m + 1, a', cap', _, up_v HF.out.2.2.1 (by have := HH.out.2.2.2; omega), HF.out.2.2.1, rfl, H1.out, ?_, HBB.out.fx hfx (fun z => by have := hge b z; omega), ?_⟩, ?_⟩
      · refine (HL.out.kept (hfx.wide fun z _ hz => ?_)).up HF.out.1 (HF.out.2.1.kept (C := B) (hfx.wide fun z _ hz => ?_) (Nat.le_refl _))
        · have := hge z hz; have := HH.out.2.2.1; have := HBZ.out; omega
        · have := hge z hz; have := HH.out.2.2.1; have := HBZ.out; omega
      · exact out_lo HO1.out (dg := b + 1) (hfx.wide fun z _ hz => hge z hz) (by have := HBZ.out; omega)
      · rw [up_w HF.out.2.2.1 (by have := HH.out.2.2.2; omega)]
        exact ms_n HF.out.2.2.1
    · obtain rfl : m = nf := by omega
      have l1 : decide ((m : Int) < (m : Int)) = false := by simp
      clear hgo hown hL hB ho
      go_wp2
      go_ret
      exact ⟨ra, rc, xs, rfl, Go.Joins.ownsRow_le HOw.out (by have := HBZ.out; omega), HL.out, HO1.out⟩
end Go.Proofs.YthijkfcobkdihaaDoor
