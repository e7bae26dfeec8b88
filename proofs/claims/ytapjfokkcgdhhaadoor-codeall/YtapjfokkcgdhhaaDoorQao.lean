import Derived.Test.YtapjfokkcgdhhaaDoorQan
namespace Go.Proofs.YtapjfokkcgdhhaaDoor
open Go.RowKit
set_option linter.unusedVariables false
set_option linter.unusedSimpArgs false

theorem ok_mi {P : Int × List (List Int) × List (Int × Int × Int × List (Int × Int))} (h : okP P) : ∀ f ∈ P.2.2, MI f.2.2.2 := by
  intro f hf x hx
  have hI := (h.2.2.2.2 f hf).2.2.2.2 x hx
  have h1 := opS_in hI.1
  have hle := opS_le x.1
  obtain ⟨k0, k1, k2, k3, k4⟩ := hI
  refine ⟨by omega, ?_⟩
  have : opS x.1 = 1 ∨ opS x.1 = 2 ∨ opS x.1 = 3 ∨ opS x.1 = 4 := by omega
  rcases this with q | q | q | q
  · have := k1 q; omega
  · have := k2 q; omega
  · have := k3 q; omega
  · exact k4 q
theorem ok_big {P : Int × List (List Int) × List (Int × Int × Int × List (Int × Int))} (h : okP P) : (P.2.1.length : Int) ≤ 400000 ∧ (P.2.2.length : Int) ≤ 400000 ∧ ∀ f ∈ P.2.2, (f.2.2.2.length : Int) ≤ 400000 := by
  refine ⟨by have := h.2.1; omega, by have := h.2.2.2.1; omega, fun f hf => by have := (h.2.2.2.2 f hf).2.2.2.1; omega⟩
/-- Write in words of the law's -/
theorem write_at {w : World} {B : Nat} (hT : Ty w) (hB : B ≤ w.heap.size) (x : Int) (ts : List (List Int)) (fs : List (Int × Int × Int × List (Int × Int))) (ta fa : Option Addr) (nt tc nf fc : Nat) (hnt : ts.length = nt) (hnf : fs.length = nf) (hts : TxIn w B ta ts) (hfs : FnIn w B fa fs) (hM : ∀ f ∈ fs, MI f.2.2.2) (hBt : Byt (wrB (x, ts, fs))) :
    Calls Tryd.prog 10 #[.agg #[.int .i64 x, .slice ta nt tc, .slice fa nf fc]] w fun e w' => ∃ ra K cap, e = .returned (.tuple #[.slice ra K cap, .int .i64 (wrE (x, ts, fs))]) ∧ Out 0 0 w w' ∧ ByIn w' w'.heap.size ra (wrB (x, ts, fs)) ∧ (wrB (x, ts, fs)).length = K ∧ K ≤ cap :=
  (write_any hT hB x ts fs ta fa nt tc nf fc hnt hnf hts hfs hM).mono fun e w' ⟨ra, K, cap, h1, h2, h3, h4⟩ => ⟨ra, K, cap, h1, h2, ByIn.own hBt h3 (fun q hq => (own_ge h3 hq).2), h4, by
    rcases h3.2 with ⟨q, q'⟩ | ⟨g, c2, cur, q, _, _, h9, _⟩
    · cases q; omega
    · cases q; exact h9⟩
theorem wr_byt {P : Int × List (List Int) × List (Int × Int × Int × List (Int × Int))} (h : ∀ t ∈ P.2.1, Byt t) : Byt (wrB P) := by
  by_cases hk : okP P
  · by_cases hl : (encP P).length ≤ 65536
    · rw [(wr_ok hk hl).2]; exact enc_byt hk h
    · rw [(wr_long hk (by omega)).2]; exact Byt.nil
  · rw [(wr_form hk).2]; exact Byt.nil
theorem tx_byt {w : World} {B : Nat} {p : Option Addr} {ts : List (List Int)} (h : TxIn w B p ts) : ∀ t ∈ ts, Byt t := by
  intro t ht
  obtain ⟨j, hj, rfl⟩ := List.getElem_of_mem ht
  rcases h with h | ⟨g, off, _, _, h3⟩
  · subst h; simp at hj
  · obtain ⟨_, _, _, hb, _⟩ := h3 j _ (List.getElem?_eq_getElem hj)
    exact hb
end Go.Proofs.YtapjfokkcgdhhaaDoor
namespace Go.Proofs.YtapjfokkcgdhhaaDoor
open Go.RowKit
set_option linter.unusedVariables false
set_option linter.unusedSimpArgs false

theorem slice_to (ra : Option Addr) (K cap n : Nat) (h : n ≤ cap) : ∃ A' C', (∀ W, (Instr.sliceAt 22 (.slice ra K cap) none (some (.int .i64 (n : Int))) none).run Tryd.prog W = .ok (.slice A' n C') W) ∧ (A' = ra ∧ cap = 0 ∨ A' = ra.map (·.add 0)) := by
  obtain ⟨i0, hi, hz0, hz1, hz2⟩ := info_p info_u8
  have hu : Tryd.prog.underlying 22 = some (.slice (Tryd.prog.elem 22)) := by kernel_rfl
  have he : Tryd.prog.elem 22 = 5 := by kernel_rfl
  have key : ∀ W, (Instr.sliceAt 22 (.slice ra K cap) none (some (.int .i64 (n : Int))) none).run Tryd.prog W = .ok (sliced ra 0 n cap 1) W := by
    intro W
    rw [run_sliceAt_slice W _ _ _ _ _ hu, run_slice_h W _ _ _ _ hu _ _ (by omega) (by omega), he]
    simp [sizeOf, typeInfo, hi, hz1, Result.andThen]
  refine ⟨if cap = 0 then ra else ra.map (·.add (0 * 1)), cap - 0, fun W => ?_, ?_⟩
  · rw [key W]
    unfold sliced
    rw [Nat.sub_zero]
  · by_cases hc : cap = 0
    · exact .inl ⟨if_pos hc, hc⟩
    · right; rw [if_neg hc, Nat.zero_mul]
/-- bytes that were copied: where they lie -/
theorem own_by {w w' : World} {a' : Option Addr} {n cap' : Nat} {t : List Int} (hB : Byt t) (h : w'.ownsRow w.heap.size 5 1 (.slice a' n cap') n (bvs t)) : ByIn w' w'.heap.size a' t ∧ n ≤ cap' := by
  refine ⟨ByIn.own hB h (fun q hq => (own_ge h hq).2), ?_⟩
  rcases h.2 with ⟨q, q'⟩ | ⟨g, c2, cur, q, _, _, h9, _⟩
  · cases q; omega
  · cases q; exact h9
theorem nil_out {w w' : World} (h : Fx (fun k => (Value.slice none 0 0).ownBlock = some k) w w') : Out 0 0 w w' := h.out (fun k _ q => by cases q)
end Go.Proofs.YtapjfokkcgdhhaaDoor
