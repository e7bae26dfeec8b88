import Derived.Test.YtcpignkjlnjjmaaDoorNk14
namespace Go.Proofs.YtcpignkjlnjjmaaDoor
open Go.RowKit
set_option linter.unusedVariables false
set_option linter.unusedSimpArgs false

theorem three_first {w : World} {o o2 o3 : Obj} : (((w.alloc o).alloc o2).alloc o3).heap[w.heap.size]? = some o := by
  rw [Below.heap_alloc _ _ _ (by simp; omega)]; exact two_first
theorem three_second {w : World} {o o2 o3 : Obj} : (((w.alloc o).alloc o2).alloc o3).heap[w.heap.size + 1]? = some o2 := by
  rw [Below.heap_alloc _ _ _ (by simp)]; exact two_second
theorem three_third {w : World} {o o2 o3 : Obj} : (((w.alloc o).alloc o2).alloc o3).heap[w.heap.size + 2]? = some o3 := by
  have q := heap_alloc_new ((w.alloc o).alloc o2) o3
  simpa using q
theorem leaves_tmps {P : Program} {fn : Func} {t t' : Array Value} {R : Ending → World → Prop} (h : results fn t = results fn t') : ∀ (ds : List Deferred) (u : FrameMode) (w : World), Leaves P fn t R ds u w → Leaves P fn t' R ds u w
  | [], .run, w, hL => hL
  | [], .returning, w, hL => by
    obtain ⟨v, a, b⟩ := hL
    exact ⟨v, by rw [← h]; exact a, b⟩
  | [], .panicking c, w, hL => hL
  | d :: ds, u, w, hL => by
    obtain ⟨hu, fv, cap, f, args, h1, h2, h3⟩ := hL
    refine ⟨hu, fv, cap, f, args, h1, h2, h3.mono ?_⟩
    intro e u' w' q
    cases e with
    | returned v => exact leaves_tmps h ds _ _ q
    | panicked c => exact leaves_tmps h ds _ _ q
    | outgrown => exact q
theorem getD_put (t : Array Value) {d p : Nat} (h : d ≠ p) (v : Value) : (t.setIfInBounds d v).getD p undef = t.getD p undef := by
  simp [Array.getElem?_setIfInBounds_ne h]
theorem results_put2 {fn : Func} {p q : Tmp} {a b : TypeId} (hr : fn.results = #[.cell p a, .cell q b]) {d : Tmp} (h1 : d ≠ p) (h2 : d ≠ q) (t : Array Value) (v : Value) : results fn (t.setIfInBounds d v) = results fn t := by
  simp only [results, hr]
  simp [Array.getElem?_setIfInBounds_ne h1, Array.getElem?_setIfInBounds_ne h2]
theorem results_put1 {fn : Func} {p : Tmp} {a : TypeId} (hr : fn.results = #[.cell p a]) {d : Tmp} (h1 : d ≠ p) (t : Array Value) (v : Value) : results fn (t.setIfInBounds d v) = results fn t := by
  simp only [results, hr]
  simp [Array.getElem?_setIfInBounds_ne h1]
theorem results_two {P : Program} {fn : Func} {p q : Tmp} {a b : TypeId} {t : Array Value} {w : World} {v1 v2 : Value} {A1 A2 : Addr} (hr : fn.results = #[.cell p a, .cell q b]) (hp : t.getD p undef = .pointer (some A1)) (hq : t.getD q undef = .pointer (some A2)) (r1 : (loadVar a A1).run P w = .ok v1 w) (r2 : (loadVar b A2).run P w = .ok v2 w) : (results fn t).run P w = .ok (.tuple #[v1, v2]) w := by
  have hp' : t[p]?.getD undef = .pointer (some A1) := by simpa using hp
  have hq' : t[q]?.getD undef = .pointer (some A2) := by simpa using hq
  simp only [results, hr]
  simp [Sem.run_bind, hp', hq', asAddr, r1, r2, Result.andThen]
theorem Out.trans' {a b c : World} {g h : Nat} (o : Out 0 0 a b) (q : Out g h b c) (hg : a.heap.size ≤ g) : Out 0 0 a c :=
  ⟨q.1.trans o.1, q.2.1.trans o.2.1, q.2.2.1.trans o.2.2.1, Nat.le_trans o.size q.size, fun k hk hn => (q.block (Nat.lt_of_lt_of_le hk o.size) (by omega)).trans (o.block hk hn)⟩
theorem load_blk {w : World} {g : Nat} {x1 x2 x3 x4 x5 : Int} (hg : w.heap[g]? = some (.cells #[.int .i64 x1, .int .i64 x2, .int .i64 x3, .int .i64 x4, .int .i64 x5] 49 (0, 0))) : (loadVar 49 ⟨g, 0, none⟩).run Tryd.prog w = .ok (.agg #[.int .i64 x1, .int .i64 x2, .int .i64 x3, .int .i64 x4, .int .i64 x5]) w :=
  run_loadVar_row w g 49 49 _ (0, 0) _ hg Tryd.underlying49 rfl (infoB x1 x2 x3 x4 x5)
theorem load_flt {w : World} {g : Nat} {x1 x2 : Int} (hg : w.heap[g]? = some (.cells #[.int .i64 x1, .int .i64 x2] 34 (0, 0))) : (loadVar 34 ⟨g, 0, none⟩).run Tryd.prog w = .ok (.agg #[.int .i64 x1, .int .i64 x2]) w :=
  run_loadVar_row w g 34 34 _ (0, 0) _ hg Tryd.underlying34 rfl (infoF x1 x2)
theorem leaves_ret {P : Program} {fn : Func} {t : Array Value} {R : Ending → World → Prop} {w : World} {v : Value} (h : (results fn t).run P w = .ok v w) (hR : R (.returned v) w) : Leaves P fn t R [] .returning w := ⟨v, h, hR⟩
section
variable {w : World} {lo hi hb : Nat} {s : Nat → Nat} {n cap : Nat} {r : Raw}
end
end Go.Proofs.YtcpignkjlnjjmaaDoor
