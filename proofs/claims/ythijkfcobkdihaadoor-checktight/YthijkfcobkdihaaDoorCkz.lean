/- the law: what an instruction does to the stack -/
import Derived.Test.YthijkfcobkdihaaDoorCkw
namespace Go.Proofs.YthijkfcobkdihaaDoor
open Go.RowKit
set_option linter.unusedVariables false
set_option linter.unusedSimpArgs false

/-- many blocks laid one behind the other -/
def layAll (w : World) : List Obj → World
  | [] => w
  | o :: os => layAll (w.alloc o) os
theorem lay_out (os : List Obj) : ∀ (w : World), Out 0 0 w (layAll w os) := by
  induction os with
  | nil => intro w; exact Out.refl 0 0 w
  | cons o os ih => intro w; exact ((Out.refl 0 0 w).alloc o).trans (ih (w.alloc o))
theorem lay_at : ∀ (os : List Obj) (w : World) (i : Nat) (o : Obj), os[i]? = some o → (layAll w os).heap[w.heap.size + i]? = some o
  | [], w, i, o, h => by simp at h
  | x :: os, w, 0, o, h => by
    simp at h
    subst h
    exact (lay_out os (w.alloc x)).heap (heap_alloc_new w x) (.inr (Nat.zero_le _))
  | x :: os, w, i + 1, o, h => by
    have := lay_at os (w.alloc x) i o (by simpa using h)
    rw [size_alloc] at this
    rw [show w.heap.size + (i + 1) = w.heap.size + 1 + i by omega]
    exact this
theorem lay_bl {os : List Obj} {w V : World} {h : Nat} (hh : w.heap.size = h) (hV : layAll w os = V) (i : Nat) {cs : Array Value} {T : TypeId} (ho : os[i]? = some (.cells cs T (0, 0))) : Bl V (h + i) cs T := by
  subst hh hV
  exact lay_at os w i _ ho
def fstL : List Int := [0, 0, 0, 0, 0, 0, 1, 0, 0, 1, 1, 1, 2, 0, 1, 0, 0, 0, 1, 1, 1, 1]
def gvnL : List Int := [1, 1, 1, 1, 1, 1, 0, 1, 1, 0, 0, 2, 2, 0, 0, 1, 1, 0, 0, 1, 0, 0]
def latL : List Int := [2, 1, 1, 2, 2, 1, 1, 2, 2, 2, 3, 1, 1, 2, 2, 2, 1, 1, 2, 2, 2, 2, 2, 2, 2, 2, 2, 2, 2, 1, 1, 1, 1, 2, 1, 1, 2, 2, 1, 1, 0, 3, 3, 2, 1, 1]
theorem lat_at : ∀ j : Nat, j < 46 → latL[j]? = some (tkS (30 + (j : Int))) ∧ ptV (30 + (j : Int)) = 1 ∧ goB (30 + (j : Int)) = true := by decide +kernel
theorem fst_at : ∀ j : Nat, j < 22 → j ≠ 15 → j ≠ 16 → j ≠ 17 → fstL[j]? = some (tkS (1 + (j : Int))) := by decide +kernel
theorem gvn_at : ∀ j : Nat, j < 22 → gvnL[j]? = some (ptV (1 + (j : Int))) := by decide +kernel
theorem tb_cell {w : World} {g j : Nat} {l : List Int} {x : Int} (h : Bl w g (ivs l).toArray 3) (hj : l[j]? = some x) : w.cell? ⟨g, j, none⟩ = some (.int .i64 x) := iv_cell h hj
theorem op_big {op : Int} (h : opS op ≠ 0) : (∃ j : Nat, j < 46 ∧ op = 30 + (j : Int)) ∨ ∃ j : Nat, j < 22 ∧ op = 1 + (j : Int) := by
  rcases op_ways h with c | c | c | c
  · exact .inr ⟨(op - 1).toNat, by omega, by omega⟩
  · exact .inr ⟨(op - 1).toNat, by omega, by omega⟩
  · exact .inl ⟨(op - 30).toNat, by omega, by omega⟩
  · exact .inl ⟨(op - 30).toNat, by omega, by omega⟩
set_option maxRecDepth 100000 in
set_option maxHeartbeats 2000000 in
theorem eff_big {w : World} (x : Int) (ta : Option Addr) (nt tc : Nat) (fa : Option Addr) (nf fc : Nat) {j : Nat} (hj : j < 46) {op a t : Int} (hop : op = 30 + (j : Int)) (ht : tkS op = t) : Calls Tryd.prog 19 #[.agg #[.int .i64 x, .slice ta nt tc, .slice fa nf fc], .agg #[.int .i64 op, .int .i64 a]] w fun e w' => e = .returned (.tuple #[.int .i64 t, .int .i64 1, .bool true]) ∧ Out 0 0 w w' := by
  obtain ⟨h, hh⟩ : ∃ h, w.heap.size = h := ⟨_, rfl⟩
  obtain ⟨V, hV⟩ : ∃ V, layAll w [.cells #[.int .i64 x, .slice ta nt tc, .slice fa nf fc] 35, .cells #[.int .i64 op, .int .i64 a] 28, .cells #[.int .i64 0, .int .i64 0, .int .i64 0, .int .i64 0, .int .i64 0, .int .i64 0, .int .i64 1, .int .i64 0, .int .i64 0, .int .i64 1, .int .i64 1, .int .i64 1, .int .i64 2, .int .i64 0, .int .i64 1, .int .i64 0, .int .i64 0, .int .i64 0, .int .i64 1, .int .i64 1, .int .i64 1, .int .i64 1] 3, .cells #[.int .i64 1, .int .i64 1, .int .i64 1, .int .i64 1, .int .i64 1, .int .i64 1, .int .i64 0, .int .i64 1, .int .i64 1, .int .i64 0, .int .i64 0, .int .i64 2, .int .i64 2, .int .i64 0, .int .i64 0, .int .i64 1, .int .i64 1, .int .i64 0, .int .i64 0, .int .i64 1, .int .i64 0, .int .i64 0] 3, .cells #[.int .i64 2, .int .i64 1, .int .i64 1, .int .i64 2, .int .i64 2, .int .i64 1, .int .i64 1, .int .i64 2, .int .i64 2, .int .i64 2, .int .i64 3, .int .i64 1, .int .i64 1, .int .i64 2, .int .i64 2, .int .i64 2, .int .i64 1, .int .i64 1, .int .i64 2, .int .i64 2, .int .i64 2, .int .i64 2, .int .i64 2, .int .i64 2, .int .i64 2, .int .i64 2, .int .i64 2, .int .i64 2, .int .i64 2, .int .i64 1, .int .i64 1, .int .i64 1, .int .i64 1, .int .i64 2, .int .i64 1, .int .i64 1, .int .i64 2, .int .i64 2, .int .i64 1, .int .i64 1, .int .i64 0, .int .i64 3, .int .i64 3, .int .i64 2, .int .i64 1, .int .i64 1] 3] = V := ⟨_, rfl⟩
  have HO : Hid (Out 0 0 w V) := hid_mk (by rw [← hV]; exact lay_out _ w)
  have bP := lay_bl hh hV 0 rfl
  rw [Nat.add_zero] at bP
  have bI := lay_bl hh hV 1 rfl
  have b1 : Bl V (h + 2) (ivs fstL).toArray 3 := lay_bl hh hV 2 rfl
  have b2 : Bl V (h + 3) (ivs gvnL).toArray 3 := lay_bl hh hV 3 rfl
  have b3 : Bl V (h + 4) (ivs latL).toArray 3 := lay_bl hh hV 4 rfl
  have x0 := bI.cell (i := 0) rfl
  have x1 := bI.cell (i := 1) rfl
  have p2 := bP.cell (i := 2) rfl
  have cl := tb_cell b3 (by rw [(lat_at j hj).1, ← hop, ht])
  have d1 : decide (30 ≤ op) = true := by simp; omega
  have d2 : decide (op ≤ 75) = true := by simp; omega
  have hw : wrap64 (op - 30) = (j : Int) := by unfold wrap64; omega
  have hj2 : (j : Int) < 46 := by omega
  have HOP := hid_mk hop
  clear hop ht hj
  simp only [layAll] at hV
  clear bP bI b1 b2 b3
  go_enter Tryd.func19, Tryd.ntmps19
  go_wp2
  go_ret3
  exact ⟨rfl, HO.out⟩
end Go.Proofs.YthijkfcobkdihaaDoor
