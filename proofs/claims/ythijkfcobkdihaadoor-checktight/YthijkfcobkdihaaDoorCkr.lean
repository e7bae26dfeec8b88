/- package check: what Check tells -/
import Derived.Test.YthijkfcobkdihaaDoorCkq
namespace Go.Proofs.YthijkfcobkdihaaDoor
open Go.RowKit
set_option linter.unusedVariables false
set_option linter.unusedSimpArgs false

noncomputable def ckV (P : Int × List (List Int) × List (Int × Int × Int × List (Int × Int))) : Sum (Int × Nat × Nat) (List Int × List (List Int)) := open Classical in if wrE P = 0 then chF P.1 P.2.1.length P.2.2 else .inl (62, 0, 0)
theorem wr_zero {P : Int × List (List Int) × List (Int × Int × Int × List (Int × Int))} (h : wrE P = 0) : okP P ∧ (encP P).length ≤ 65536 := by
  by_cases h1 : okP P
  · refine ⟨h1, ?_⟩
    rcases Nat.lt_or_ge 65536 (encP P).length with c | c
    · rw [(wr_long h1 c).1] at h; cases h
    · exact c
  · rw [(wr_form h1).1] at h; cases h
theorem tkS_rng (op : Int) : 0 ≤ tkS op ∧ tkS op ≤ 64 := by unfold tkS; split; decide; split; decide; split <;> decide
theorem ok_x {g : Int} {nt n : Nat} {fs : List (Int × Int × Int × List (Int × Int))} {lo ca : Int} {y : Int × Int} (hfs : ∀ f ∈ fs, 0 ≤ f.2.2.1 ∧ f.2.2.1 ≤ 64) (h : okI y) (h2 : rtB g nt fs.length lo ca y = true) (h3 : juB y.1 = true → y.2 < (n : Int)) : OkX fs.length n fs y := by
  obtain ⟨op, a⟩ := y
  have hn : opS op = 2 → 0 ≤ a := fun e => (h.2.2.1 e).1
  have r16 : op = 16 → 0 ≤ a ∧ a < (fs.length : Int) := fun e => by
    subst e
    exact ⟨hn rfl, by simpa [rtB] using h2⟩
  have r17 : op = 17 ∨ op = 18 → 0 ≤ a ∧ a ≤ 8 := fun e => by
    rcases e with rfl | rfl
    · exact ⟨hn rfl, by simpa [rtB] using h2⟩
    · exact ⟨hn rfl, by simpa [rtB] using h2⟩
  refine ⟨h.1, r16, r17, fun e => ⟨?_, h3 e⟩, ?_⟩
  · have : op = 14 ∨ op = 15 := by simpa [juB] using e
    rcases this with rfl | rfl <;> exact hn rfl
  · unfold tkV
    simp only []
    by_cases e1 : op = 16
    · rw [if_pos e1]
      obtain ⟨a0, a1⟩ := r16 e1
      unfold cpV
      rw [List.getElem?_eq_getElem (by omega)]
      exact hfs _ (List.getElem_mem _)
    · rw [if_neg e1]
      by_cases e2 : op = 17 ∨ op = 18
      · rw [if_pos e2]
        have := r17 e2
        omega
      · rw [if_neg e2]; exact tkS_rng op
theorem ok_fs {x : Int} {ts : List (List Int)} {fs : List (Int × Int × Int × List (Int × Int))} (h : okP (x, ts, fs)) (hp : ptF x ts.length fs.length 0 fs = none) : OkFs fs.length fs := by
  intro f hf
  obtain ⟨h1, h2, h3⟩ := ptF_ok hp f hf
  obtain ⟨q1, q2, q3, q4, q5⟩ := h.2.2.2.2 f hf
  exact ⟨h2, q4, q2, fun y hy => ok_x (fun f' hf' => (h.2.2.2.2 f' hf').2.2.1) (q5 y hy) (h3 y hy).1 (h3 y hy).2⟩
theorem pt_er {x : Int} {nt nf k i : Nat} {e : Int} {f : Int × Int × Int × List (Int × Int)} {l : List (Int × Int × Int × List (Int × Int))} (h : paF f.1 f.2.1 f.2.2.1 x nt nf f.2.2.2.length f.2.2.2 = some (e, i)) : ptF x nt nf k (f :: l) = some (e, k, i) := by
  unfold paF at h
  rw [ptF]
  by_cases c : f.2.1 < f.1 ∨ f.2.2.2 = []
  · rw [if_pos c]
    rw [if_pos (c.imp_right fun z => by rw [z]; rfl)] at h
    cases h
    rfl
  · rw [if_neg c]
    rw [if_neg (fun z => c (z.imp_right fun z => List.eq_nil_of_length_eq_zero z))] at h
    rw [h]
theorem pt_go {x : Int} {nt nf k : Nat} {f : Int × Int × Int × List (Int × Int)} {l : List (Int × Int × Int × List (Int × Int))} (h : paF f.1 f.2.1 f.2.2.1 x nt nf f.2.2.2.length f.2.2.2 = none) : ptF x nt nf k (f :: l) = ptF x nt nf (k + 1) l := by
  unfold paF at h
  conv => lhs; rw [ptF]
  by_cases c : f.2.1 < f.1 ∨ f.2.2.2 = []
  · rw [if_pos (c.imp_right fun z => by rw [z]; rfl)] at h
    cases h
  · rw [if_neg c]
    rw [if_neg (fun z => c (z.imp_right fun z => List.eq_nil_of_length_eq_zero z))] at h
    rw [h]
theorem results_4 {P : Program} {fn : Func} {p q r s : Tmp} {a b c d : TypeId} {t : Array Value} {w : World} {v1 v2 v3 v4 : Value} {A1 A2 A3 A4 : Addr} (hr : fn.results = #[.cell p a, .cell q b, .cell r c, .cell s d]) (hp : t.getD p undef = .pointer (some A1)) (hq : t.getD q undef = .pointer (some A2)) (hr' : t.getD r undef = .pointer (some A3)) (hs : t.getD s undef = .pointer (some A4)) (r1 : (loadVar a A1).run P w = .ok v1 w) (r2 : (loadVar b A2).run P w = .ok v2 w) (r3 : (loadVar c A3).run P w = .ok v3 w) (r4 : (loadVar d A4).run P w = .ok v4 w) : (results fn t).run P w = .ok (.tuple #[v1, v2, v3, v4]) w := by
  have hp' : t[p]?.getD undef = .pointer (some A1) := by simpa using hp
  have hq' : t[q]?.getD undef = .pointer (some A2) := by simpa using hq
  have hr2 : t[r]?.getD undef = .pointer (some A3) := by simpa using hr'
  have hs' : t[s]?.getD undef = .pointer (some A4) := by simpa using hs
  simp only [results, hr]
  simp [Sem.run_bind, hp', hq', hr2, hs', asAddr, r1, r2, r3, r4, Result.andThen]
theorem load_int {w : World} {g : Nat} {x : Int} (hg : Bl w g #[.int .i64 x] 3) : (loadVar 3 ⟨g, 0, none⟩).run Tryd.prog w = .ok (.int .i64 x) w := by
  have c := hg.cell (i := 0) rfl
  simp [loadVar, isAgg, underlying, Tryd.underlying3, c, Result.andThen]
theorem load_ck {w : World} {g : Nat} {a b : Value} (hg : Bl w g #[a, b] 53) : (loadVar 53 ⟨g, 0, none⟩).run Tryd.prog w = .ok (.agg #[a, b]) w :=
  run_loadVar_row w g 53 53 _ (0, 0) _ hg Tryd.underlying53 rfl (info_ck a b)
/-- what Check leaves -/
def CkQ (w : World) (o : Sum (Int × Nat × Nat) (List Int × List (List Int))) (e : Ending) (w' : World) : Prop := Out 0 0 w w' ∧ ((∃ S Ds sv dv dgs, o = .inr (S, Ds) ∧ e = .returned (.tuple #[.agg #[sv, dv], .int .i64 0, .int .i64 0, .int .i64 0]) ∧ CkAt w' w.heap.size sv dv S Ds dgs) ∨ ∃ (er : Int) (f i : Nat), o = .inl (er, f, i) ∧ e = .returned (.tuple #[.agg #[.slice none 0 0, .slice none 0 0], .int .i64 f, .int .i64 i, .int .i64 er]))
end Go.Proofs.YthijkfcobkdihaaDoor
