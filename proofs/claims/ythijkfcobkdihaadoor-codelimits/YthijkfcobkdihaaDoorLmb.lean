/- the law CodeLimits: programs in memory, can -/
import Derived.Test.YthijkfcobkdihaaDoorLma
namespace Go.Proofs.YthijkfcobkdihaaDoor
open Go.RowKit
set_option linter.unusedVariables false
set_option linter.unusedSimpArgs false

theorem mk_at {z : Value} {n i : Nat} (h : i < n) : (madeCells #[z] n)[i]? = some z := by simp [madeCells, h, Nat.mod_one]
theorem mk_f {k j : Nat} (h : j * 4 + 3 < k) : (madeCells #[Value.int .i64 0, .int .i64 0, .int .i64 0, .slice none 0 0] k)[j * 4]? = some (.int .i64 0) ∧ (madeCells #[Value.int .i64 0, .int .i64 0, .int .i64 0, .slice none 0 0] k)[j * 4 + 1]? = some (.int .i64 0) ∧ (madeCells #[Value.int .i64 0, .int .i64 0, .int .i64 0, .slice none 0 0] k)[j * 4 + 2]? = some (.int .i64 0) ∧ (madeCells #[Value.int .i64 0, .int .i64 0, .int .i64 0, .slice none 0 0] k)[j * 4 + 3]? = some (.slice none 0 0) := by
  have h0 : j * 4 < k := by omega
  have h1 : j * 4 + 1 < k := by omega
  have h2 : j * 4 + 2 < k := by omega
  have e0 : j * 4 % 4 = 0 := by omega
  have e1 : (j * 4 + 1) % 4 = 1 := by omega
  have e2 : (j * 4 + 2) % 4 = 2 := by omega
  have e3 : (j * 4 + 3) % 4 = 3 := by omega
  simp [madeCells, h, h0, h1, h2, e0, e1, e2, e3]
theorem run_bs (m : Nat) (hm : m ≤ 5000) (w : World) : (Instr.makeSlice 33 (.int .i64 (m : Int)) (.int .i64 (m : Int))).run Tryd.prog w = .ok (.slice (some ⟨w.heap.size, 0, none⟩) m m) (w.alloc (.cells (madeCells #[.slice none 0 0] m) 23)) := run_make_row' (P := Tryd.prog) 33 23 (.slice none 0 0) 24 Tryd.underlying33 (by kernel_rfl) rfl .i64 .i64 m (by omega) (by omega) w
theorem run_by (m : Nat) (hm : m ≤ 5000) (w : World) : (Instr.makeSlice 23 (.int .i64 (m : Int)) (.int .i64 (m : Int))).run Tryd.prog w = .ok (.slice (some ⟨w.heap.size, 0, none⟩) m m) (w.alloc (.cells (madeCells #[.int .u8 0] m) 5)) := run_make_row' (P := Tryd.prog) 23 5 (.int .u8 0) 1 Tryd.underlying23 (by kernel_rfl) rfl .i64 .i64 m (by omega) (by omega) w
theorem run_fn (m : Nat) (hm : m ≤ 5000) (w : World) : (Instr.makeSlice 32 (.int .i64 (m : Int)) (.int .i64 (m : Int))).run Tryd.prog w = .ok (.slice (some ⟨w.heap.size, 0, none⟩) m m) (w.alloc (.cells (madeCells #[.int .i64 0, .int .i64 0, .int .i64 0, .slice none 0 0] (m * 4)) 31)) := by
  obtain ⟨i0, hi, hz0, hz1, hz2⟩ := info_p info_func
  have := run_make (P := Tryd.prog) w 32 31 i0 _ Tryd.underlying32 hi hz0 .i64 .i64 (m : Int) (m : Int) (by omega) (Int.le_refl _) (by rw [hz2]; omega) (by omega)
  rw [this, hz1]
  simp [Value.cells]
theorem tx_made {w : World} {g m : Nat} (h : Bl w g (madeCells #[.slice none 0 0] m) 23) : TxIn w w.heap.size (some ⟨g, 0, none⟩) (List.replicate m []) := by
  refine .inr ⟨g, 0, rfl, h.lt, fun j t hj => ?_⟩
  have hl := (List.getElem?_eq_some_iff.1 hj).1
  rw [List.length_replicate] at hl
  rw [List.getElem?_replicate, if_pos hl] at hj
  cases hj
  exact ⟨none, 0, by rw [Nat.zero_add]; exact h.cell (mk_at hl), (by intro b hb; cases hb), .inl rfl⟩
theorem by_made {w : World} {g m : Nat} (h : Bl w g (madeCells #[.int .u8 0] m) 5) : ByIn w w.heap.size (some ⟨g, 0, none⟩) (zL m) := by
  refine ⟨(by intro b hb; rw [List.eq_of_mem_replicate hb]; omega), .inr ⟨g, 0, rfl, h.lt, fun j t hj => ?_⟩⟩
  have hl := (List.getElem?_eq_some_iff.1 hj).1
  rw [zL_len] at hl
  unfold zL at hj
  rw [List.getElem?_replicate, if_pos hl] at hj
  cases hj
  rw [Nat.zero_add]
  exact h.cell (mk_at hl)
theorem tx_sing {w : World} {g t m : Nat} (h1 : Bl w g (madeCells #[.int .u8 0] m) 5) (h2 : Bl w t #[.slice (some ⟨g, 0, none⟩) m m] 23) : TxIn w w.heap.size (some ⟨t, 0, none⟩) [zL m] := by
  refine .inr ⟨t, 0, rfl, h2.lt, fun j x hj => ?_⟩
  match j, hj with
  | 0, hj => cases hj; exact ⟨some ⟨g, 0, none⟩, m, by rw [zL_len]; exact h2.cell rfl, by_made h1⟩
  | j + 1, hj => simp at hj
theorem fn_made {w : World} {g m : Nat} (h : Bl w g (madeCells #[.int .i64 0, .int .i64 0, .int .i64 0, .slice none 0 0] (m * 4)) 31) : FnIn w w.heap.size (some ⟨g, 0, none⟩) (List.replicate m (0, 0, 0, [])) := by
  refine .inr ⟨g, 0, rfl, h.lt, fun j f hj => ?_⟩
  have hl := (List.getElem?_eq_some_iff.1 hj).1
  rw [List.length_replicate] at hl
  rw [List.getElem?_replicate, if_pos hl] at hj
  cases hj
  obtain ⟨h0, h1, h2, h3⟩ := mk_f (k := m * 4) (j := j) (by omega)
  rw [Nat.zero_add]
  exact ⟨none, 0, h.cell h0, h.cell h1, h.cell h2, h.cell h3, .inl rfl⟩
theorem fn_at {w : World} {g n c : Nat} {P L C : Int} {pa : Option Addr} {cd : List (Int × Int)} (h : Bl w g #[.int .i64 P, .int .i64 L, .int .i64 C, .slice pa n c] 31) (hn : cd.length = n) (hc : InIn w w.heap.size pa cd) : FnIn w w.heap.size (some ⟨g, 0, none⟩) [(P, L, C, cd)] := by
  refine .inr ⟨g, 0, rfl, h.lt, fun j f hj => ?_⟩
  match j, hj with
  | 0, hj => cases hj; exact ⟨pa, c, h.cell rfl, h.cell rfl, h.cell rfl, by rw [hn]; exact h.cell rfl, hc⟩
  | j + 1, hj => simp at hj
theorem one_at {w : World} {g : Nat} (h : Bl w g oneC 31) : FnIn w w.heap.size (some ⟨g, 0, none⟩) oneL := fn_at (cd := []) h rfl (.inl rfl)
theorem in_sing {w : World} {g : Nat} {op a : Int} (h : Bl w g #[.int .i64 op, .int .i64 a] 28) : InIn w w.heap.size (some ⟨g, 0, none⟩) [(op, a)] := by
  refine .inr ⟨g, 0, rfl, h.lt, fun j x hj => ?_⟩
  match j, hj with
  | 0, hj => cases hj; exact ⟨h.cell rfl, h.cell rfl⟩
  | j + 1, hj => simp at hj
theorem mi_one {f : Int × Int × Int × List (Int × Int)} (h : MI f.2.2.2) : ∀ g ∈ [f], MI g.2.2.2 := by
  intro g hg
  rw [List.mem_singleton.1 hg]
  exact h
theorem mi_nil : MI [] := by intro x hx; cases hx
theorem mi_oneL : ∀ f ∈ oneL, MI f.2.2.2 := mi_one mi_nil
set_option maxRecDepth 100000 in
theorem can_any {w : World} (hT : Ty w) (x : Int) (ts : List (List Int)) (fs : List (Int × Int × Int × List (Int × Int))) (ta fa : Option Addr) (nt tc nf fc : Nat) (hnt : ts.length = nt) (hnf : fs.length = nf) (hts : TxIn w w.heap.size ta ts) (hfs : FnIn w w.heap.size fa fs) (hM : ∀ f ∈ fs, MI f.2.2.2) {b : Bool} (hb : (wrE (x, ts, fs) == 0) = b) :
    Calls Tryd.prog 12 #[.agg #[.int .i64 x, .slice ta nt tc, .slice fa nf fc]] w fun e w' => e = .returned (.bool b) ∧ Out 0 0 w w' := by
  obtain ⟨V, hV⟩ : ∃ V, w.alloc (.cells #[.int .i64 x, .slice ta nt tc, .slice fa nf fc] 35) = V := ⟨_, rfl⟩
  obtain ⟨g, hg⟩ : ∃ g, w.heap.size = g := ⟨_, rfl⟩
  have oV : Out 0 0 w V := by rw [← hV]; exact (Out.refl 0 0 w).alloc _
  have b0 : Bl V g #[.int .i64 x, .slice ta nt tc, .slice fa nf fc] 35 := by rw [← hV, ← hg]; exact Bl.new _ _ _
  have k0 := b0.cell (i := 0) rfl
  have k1 := b0.cell (i := 1) rfl
  have k2 := b0.cell (i := 2) rfl
  have HWr := hid_mk (write_any (w := V) (B := w.heap.size) (hT.out oV (.inr rfl)) oV.size x ts fs ta fa nt tc nf fc hnt hnf (hts.kept (Lo.of_out oV) (Nat.le_refl _)) (hfs.kept (Lo.of_out oV) (Nat.le_refl _)) hM)
  generalize wrE (x, ts, fs) = E at *
  have HO := hid_mk oV
  clear hT hnt hnf hts hfs hM oV b0
  go_enter Tryd.func12, Tryd.ntmps12
  go_wp2_with fail
  (try rw [hV])
  (try rw [hg])
  clear hV hg
  refine HWr.out.mono ?_
  rintro e w2 ⟨ra, K, cap, rfl, o2, _, _⟩
  have HO2 := hid_mk (HO.out.trans o2)
  clear o2 HWr k0 k1 k2
  go_wp2
  go_ret
  exact ⟨rfl, HO2.out⟩
end Go.Proofs.YthijkfcobkdihaaDoor
