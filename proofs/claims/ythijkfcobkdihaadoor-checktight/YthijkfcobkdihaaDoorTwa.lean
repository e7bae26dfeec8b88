/- the law: what an instruction does to the stack -/
import Derived.Test.YthijkfcobkdihaaDoorCkz
import Derived.Test.YthijkfcobkdihaaDoorCkv
namespace Go.Proofs.YthijkfcobkdihaaDoor
open Go.RowKit
set_option linter.unusedVariables false
set_option linter.unusedSimpArgs false

set_option maxRecDepth 100000 in
set_option maxHeartbeats 2000000 in
theorem eff_low {w : World} (x : Int) (ta : Option Addr) (nt tc : Nat) (fa : Option Addr) (nf fc : Nat) {j : Nat} (hj : j < 22) {op a t u : Int} (hop : op = 1 + (j : Int)) (ht : fstL[j]? = some t) (hu : gvnL[j]? = some u) (n16 : (op == 16) = false) (n17 : (op == 17) = false) (n18 : (op == 18) = false) (m14 : (op != 14) = true) (m18 : (op != 18) = true) (m19 : (op != 19) = true) (m21 : (op != 21) = true) (m22 : (op != 22) = true) : Calls Tryd.prog 19 #[.agg #[.int .i64 x, .slice ta nt tc, .slice fa nf fc], .agg #[.int .i64 op, .int .i64 a]] w fun e w' => e = .returned (.tuple #[.int .i64 t, .int .i64 u, .bool true]) ∧ Out 0 0 w w' := by
  obtain ⟨h, hh⟩ : ∃ h, w.heap.size = h := ⟨_, rfl⟩
  obtain ⟨V, hV⟩ : ∃ V, layAll w [.cells #[.int .i64 x, .slice ta nt tc, .slice fa nf fc] 35, .cells #[.int .i64 op, .int .i64 a] 28, .cells #[.int .i64 0, .int .i64 0, .int .i64 0, .int .i64 0, .int .i64 0, .int .i64 0, .int .i64 1, .int .i64 0, .int .i64 0, .int .i64 1, .int .i64 1, .int .i64 1, .int .i64 2, .int .i64 0, .int .i64 1, .int .i64 0, .int .i64 0, .int .i64 0, .int .i64 1, .int .i64 1, .int .i64 1, .int .i64 1] 3, .cells #[.int .i64 1, .int .i64 1, .int .i64 1, .int .i64 1, .int .i64 1, .int .i64 1, .int .i64 0, .int .i64 1, .int .i64 1, .int .i64 0, .int .i64 0, .int .i64 2, .int .i64 2, .int .i64 0, .int .i64 0, .int .i64 1, .int .i64 1, .int .i64 0, .int .i64 0, .int .i64 1, .int .i64 0, .int .i64 0] 3, .cells #[.int .i64 2, .int .i64 1, .int .i64 1, .int .i64 2, .int .i64 2, .int .i64 1, .int .i64 1, .int .i64 2, .int .i64 2, .int .i64 2, .int .i64 3, .int .i64 1, .int .i64 1, .int .i64 2, .int .i64 2, .int .i64 2, .int .i64 1, .int .i64 1, .int .i64 2, .int .i64 2, .int .i64 2, .int .i64 2, .int .i64 2, .int .i64 2, .int .i64 2, .int .i64 2, .int .i64 2, .int .i64 2, .int .i64 2, .int .i64 1, .int .i64 1, .int .i64 1, .int .i64 1, .int .i64 2, .int .i64 1, .int .i64 1, .int .i64 2, .int .i64 2, .int .i64 1, .int .i64 1, .int .i64 0, .int .i64 3, .int .i64 3, .int .i64 2, .int .i64 1, .int .i64 1] 3] = V := ⟨_, rfl⟩
  have HO : Hid (Out 0 0 w V) := hid_mk (by rw [← hV]; exact lay_out _ w)
  have bP := lay_bl hh hV 0 rfl
  rw [Nat.add_zero] at bP
  have bI := lay_bl hh hV 1 rfl
  have b1 : Bl V (h + 2) (ivs fstL).toArray 3 := lay_bl hh hV 2 rfl
  have b2 : Bl V (h + 3) (ivs gvnL).toArray 3 := lay_bl hh hV 3 rfl
  have b3 : Bl V (h + 4) (ivs latL).toArray 3 := lay_bl hh hV 4 rfl
  have x0 := bI.cell (i := 0) rfl
  have x1 := bI.cell (i := 1) rfl
  have p2 := bP.cell (i := 2) rfl
  have c1 := tb_cell b1 ht
  have c2 := tb_cell b2 hu
  have d1 : decide (30 ≤ op) = false := by simp; omega
  have d2 : decide (op < 1) = false := by simp; omega
  have d3 : decide (22 < op) = false := by simp; omega
  have hw : wrap64 (op - 1) = (j : Int) := by unfold wrap64; omega
  have hj2 : (j : Int) < 22 := by omega
  have HOP := hid_mk hop
  clear hop ht hj hu
  simp only [layAll] at hV
  clear bP bI b1 b2 b3
  go_enter Tryd.func19, Tryd.ntmps19
  go_wp2
  go_region
  go_wp2
  go_ret3
  exact ⟨rfl, HO.out.drew⟩
set_option maxRecDepth 100000 in
set_option maxHeartbeats 2000000 in
theorem eff_14 {w : World} (x : Int) (ta : Option Addr) (nt tc : Nat) (fa : Option Addr) (nf fc : Nat) {op a : Int} (hop : op = 14) : Calls Tryd.prog 19 #[.agg #[.int .i64 x, .slice ta nt tc, .slice fa nf fc], .agg #[.int .i64 op, .int .i64 a]] w fun e w' => e = .returned (.tuple #[.int .i64 0, .int .i64 0, .bool false]) ∧ Out 0 0 w w' := by
  subst hop
  obtain ⟨h, hh⟩ : ∃ h, w.heap.size = h := ⟨_, rfl⟩
  obtain ⟨V, hV⟩ : ∃ V, layAll w [.cells #[.int .i64 x, .slice ta nt tc, .slice fa nf fc] 35, .cells #[.int .i64 14, .int .i64 a] 28, .cells #[.int .i64 0, .int .i64 0, .int .i64 0, .int .i64 0, .int .i64 0, .int .i64 0, .int .i64 1, .int .i64 0, .int .i64 0, .int .i64 1, .int .i64 1, .int .i64 1, .int .i64 2, .int .i64 0, .int .i64 1, .int .i64 0, .int .i64 0, .int .i64 0, .int .i64 1, .int .i64 1, .int .i64 1, .int .i64 1] 3, .cells #[.int .i64 1, .int .i64 1, .int .i64 1, .int .i64 1, .int .i64 1, .int .i64 1, .int .i64 0, .int .i64 1, .int .i64 1, .int .i64 0, .int .i64 0, .int .i64 2, .int .i64 2, .int .i64 0, .int .i64 0, .int .i64 1, .int .i64 1, .int .i64 0, .int .i64 0, .int .i64 1, .int .i64 0, .int .i64 0] 3, .cells #[.int .i64 2, .int .i64 1, .int .i64 1, .int .i64 2, .int .i64 2, .int .i64 1, .int .i64 1, .int .i64 2, .int .i64 2, .int .i64 2, .int .i64 3, .int .i64 1, .int .i64 1, .int .i64 2, .int .i64 2, .int .i64 2, .int .i64 1, .int .i64 1, .int .i64 2, .int .i64 2, .int .i64 2, .int .i64 2, .int .i64 2, .int .i64 2, .int .i64 2, .int .i64 2, .int .i64 2, .int .i64 2, .int .i64 2, .int .i64 1, .int .i64 1, .int .i64 1, .int .i64 1, .int .i64 2, .int .i64 1, .int .i64 1, .int .i64 2, .int .i64 2, .int .i64 1, .int .i64 1, .int .i64 0, .int .i64 3, .int .i64 3, .int .i64 2, .int .i64 1, .int .i64 1] 3] = V := ⟨_, rfl⟩
  have HO : Hid (Out 0 0 w V) := hid_mk (by rw [← hV]; exact lay_out _ w)
  have bP := lay_bl hh hV 0 rfl
  rw [Nat.add_zero] at bP
  have bI := lay_bl hh hV 1 rfl
  have b1 : Bl V (h + 2) (ivs fstL).toArray 3 := lay_bl hh hV 2 rfl
  have b2 : Bl V (h + 3) (ivs gvnL).toArray 3 := lay_bl hh hV 3 rfl
  have b3 : Bl V (h + 4) (ivs latL).toArray 3 := lay_bl hh hV 4 rfl
  have x0 := bI.cell (i := 0) rfl
  have x1 := bI.cell (i := 1) rfl
  have p2 := bP.cell (i := 2) rfl
  have c1 := tb_cell b1 (j := 13) rfl
  have c2 := tb_cell b2 (j := 13) rfl
  simp only [layAll] at hV
  clear bP bI b1 b2 b3
  go_enter Tryd.func19, Tryd.ntmps19
  go_wp2
  go_region
  go_wp2
  go_ret3
  exact ⟨rfl, HO.out.drew⟩
set_option maxRecDepth 100000 in
set_option maxHeartbeats 2000000 in
theorem eff_19 {w : World} (x : Int) (ta : Option Addr) (nt tc : Nat) (fa : Option Addr) (nf fc : Nat) {op a : Int} (hop : op = 19) : Calls Tryd.prog 19 #[.agg #[.int .i64 x, .slice ta nt tc, .slice fa nf fc], .agg #[.int .i64 op, .int .i64 a]] w fun e w' => e = .returned (.tuple #[.int .i64 1, .int .i64 0, .bool false]) ∧ Out 0 0 w w' := by
  subst hop
  obtain ⟨h, hh⟩ : ∃ h, w.heap.size = h := ⟨_, rfl⟩
  obtain ⟨V, hV⟩ : ∃ V, layAll w [.cells #[.int .i64 x, .slice ta nt tc, .slice fa nf fc] 35, .cells #[.int .i64 19, .int .i64 a] 28, .cells #[.int .i64 0, .int .i64 0, .int .i64 0, .int .i64 0, .int .i64 0, .int .i64 0, .int .i64 1, .int .i64 0, .int .i64 0, .int .i64 1, .int .i64 1, .int .i64 1, .int .i64 2, .int .i64 0, .int .i64 1, .int .i64 0, .int .i64 0, .int .i64 0, .int .i64 1, .int .i64 1, .int .i64 1, .int .i64 1] 3, .cells #[.int .i64 1, .int .i64 1, .int .i64 1, .int .i64 1, .int .i64 1, .int .i64 1, .int .i64 0, .int .i64 1, .int .i64 1, .int .i64 0, .int .i64 0, .int .i64 2, .int .i64 2, .int .i64 0, .int .i64 0, .int .i64 1, .int .i64 1, .int .i64 0, .int .i64 0, .int .i64 1, .int .i64 0, .int .i64 0] 3, .cells #[.int .i64 2, .int .i64 1, .int .i64 1, .int .i64 2, .int .i64 2, .int .i64 1, .int .i64 1, .int .i64 2, .int .i64 2, .int .i64 2, .int .i64 3, .int .i64 1, .int .i64 1, .int .i64 2, .int .i64 2, .int .i64 2, .int .i64 1, .int .i64 1, .int .i64 2, .int .i64 2, .int .i64 2, .int .i64 2, .int .i64 2, .int .i64 2, .int .i64 2, .int .i64 2, .int .i64 2, .int .i64 2, .int .i64 2, .int .i64 1, .int .i64 1, .int .i64 1, .int .i64 1, .int .i64 2, .int .i64 1, .int .i64 1, .int .i64 2, .int .i64 2, .int .i64 1, .int .i64 1, .int .i64 0, .int .i64 3, .int .i64 3, .int .i64 2, .int .i64 1, .int .i64 1] 3] = V := ⟨_, rfl⟩
  have HO : Hid (Out 0 0 w V) := hid_mk (by rw [← hV]; exact lay_out _ w)
  have bP := lay_bl hh hV 0 rfl
  rw [Nat.add_zero] at bP
  have bI := lay_bl hh hV 1 rfl
  have b1 : Bl V (h + 2) (ivs fstL).toArray 3 := lay_bl hh hV 2 rfl
  have b2 : Bl V (h + 3) (ivs gvnL).toArray 3 := lay_bl hh hV 3 rfl
  have b3 : Bl V (h + 4) (ivs latL).toArray 3 := lay_bl hh hV 4 rfl
  have x0 := bI.cell (i := 0) rfl
  have x1 := bI.cell (i := 1) rfl
  have p2 := bP.cell (i := 2) rfl
  have c1 := tb_cell b1 (j := 18) rfl
  have c2 := tb_cell b2 (j := 18) rfl
  simp only [layAll] at hV
  clear bP bI b1 b2 b3
  go_enter Tryd.func19, Tryd.ntmps19
  go_wp2
  go_region
  go_wp2
  go_ret3
  exact ⟨rfl, HO.out.drew⟩
end Go.Proofs.YthijkfcobkdihaaDoor
namespace Go.Proofs.YthijkfcobkdihaaDoor
open Go.RowKit
set_option linter.unusedVariables false

set_option maxRecDepth 100000 in
set_option maxHeartbeats 2000000 in
theorem eff_21 {w : World} (x : Int) (ta : Option Addr) (nt tc : Nat) (fa : Option Addr) (nf fc : Nat) {op a : Int} (hop : op = 21) : Calls Tryd.prog 19 #[.agg #[.int .i64 x, .slice ta nt tc, .slice fa nf fc], .agg #[.int .i64 op, .int .i64 a]] w fun e w' => e = .returned (.tuple #[.int .i64 1, .int .i64 0, .bool false]) ∧ Out 0 0 w w' := by
  subst hop
  obtain ⟨h, hh⟩ : ∃ h, w.heap.size = h := ⟨_, rfl⟩
  obtain ⟨V, hV⟩ : ∃ V, layAll w [.cells #[.int .i64 x, .slice ta nt tc, .slice fa nf fc] 35, .cells #[.int .i64 21, .int .i64 a] 28, .cells #[.int .i64 0, .int .i64 0, .int .i64 0, .int .i64 0, .int .i64 0, .int .i64 0, .int .i64 1, .int .i64 0, .int .i64 0, .int .i64 1, .int .i64 1, .int .i64 1, .int .i64 2, .int .i64 0, .int .i64 1, .int .i64 0, .int .i64 0, .int .i64 0, .int .i64 1, .int .i64 1, .int .i64 1, .int .i64 1] 3, .cells #[.int .i64 1, .int .i64 1, .int .i64 1, .int .i64 1, .int .i64 1, .int .i64 1, .int .i64 0, .int .i64 1, .int .i64 1, .int .i64 0, .int .i64 0, .int .i64 2, .int .i64 2, .int .i64 0, .int .i64 0, .int .i64 1, .int .i64 1, .int .i64 0, .int .i64 0, .int .i64 1, .int .i64 0, .int .i64 0] 3, .cells #[.int .i64 2, .int .i64 1, .int .i64 1, .int .i64 2, .int .i64 2, .int .i64 1, .int .i64 1, .int .i64 2, .int .i64 2, .int .i64 2, .int .i64 3, .int .i64 1, .int .i64 1, .int .i64 2, .int .i64 2, .int .i64 2, .int .i64 1, .int .i64 1, .int .i64 2, .int .i64 2, .int .i64 2, .int .i64 2, .int .i64 2, .int .i64 2, .int .i64 2, .int .i64 2, .int .i64 2, .int .i64 2, .int .i64 2, .int .i64 1, .int .i64 1, .int .i64 1, .int .i64 1, .int .i64 2, .int .i64 1, .int .i64 1, .int .i64 2, .int .i64 2, .int .i64 1, .int .i64 1, .int .i64 0, .int .i64 3, .int .i64 3, .int .i64 2, .int .i64 1, .int .i64 1] 3] = V := ⟨_, rfl⟩
  have HO : Hid (Out 0 0 w V) := hid_mk (by rw [← hV]; exact lay_out _ w)
  have bP := lay_bl hh hV 0 rfl
  rw [Nat.add_zero] at bP
  have bI := lay_bl hh hV 1 rfl
  have b1 : Bl V (h + 2) (ivs fstL).toArray 3 := lay_bl hh hV 2 rfl
  have b2 : Bl V (h + 3) (ivs gvnL).toArray 3 := lay_bl hh hV 3 rfl
  have b3 : Bl V (h + 4) (ivs latL).toArray 3 := lay_bl hh hV 4 rfl
  have x0 := bI.cell (i := 0) rfl
  have x1 := bI.cell (i := 1) rfl
  have p2 := bP.cell (i := 2) rfl
  have c1 := tb_cell b1 (j := 20) rfl
  have c2 := tb_cell b2 (j := 20) rfl
  simp only [layAll] at hV
  clear bP bI b1 b2 b3
  go_enter Tryd.func19, Tryd.ntmps19
  go_wp2
  go_region
  go_wp2
  go_ret3
  exact ⟨rfl, HO.out.drew⟩
set_option maxRecDepth 100000 in
set_option maxHeartbeats 2000000 in
theorem eff_22 {w : World} (x : Int) (ta : Option Addr) (nt tc : Nat) (fa : Option Addr) (nf fc : Nat) {op a : Int} (hop : op = 22) : Calls Tryd.prog 19 #[.agg #[.int .i64 x, .slice ta nt tc, .slice fa nf fc], .agg #[.int .i64 op, .int .i64 a]] w fun e w' => e = .returned (.tuple #[.int .i64 1, .int .i64 0, .bool false]) ∧ Out 0 0 w w' := by
  subst hop
  obtain ⟨h, hh⟩ : ∃ h, w.heap.size = h := ⟨_, rfl⟩
  obtain ⟨V, hV⟩ : ∃ V, layAll w [.cells #[.int .i64 x, .slice ta nt tc, .slice fa nf fc] 35, .cells #[.int .i64 22, .int .i64 a] 28, .cells #[.int .i64 0, .int .i64 0, .int .i64 0, .int .i64 0, .int .i64 0, .int .i64 0, .int .i64 1, .int .i64 0, .int .i64 0, .int .i64 1, .int .i64 1, .int .i64 1, .int .i64 2, .int .i64 0, .int .i64 1, .int .i64 0, .int .i64 0, .int .i64 0, .int .i64 1, .int .i64 1, .int .i64 1, .int .i64 1] 3, .cells #[.int .i64 1, .int .i64 1, .int .i64 1, .int .i64 1, .int .i64 1, .int .i64 1, .int .i64 0, .int .i64 1, .int .i64 1, .int .i64 0, .int .i64 0, .int .i64 2, .int .i64 2, .int .i64 0, .int .i64 0, .int .i64 1, .int .i64 1, .int .i64 0, .int .i64 0, .int .i64 1, .int .i64 0, .int .i64 0] 3, .cells #[.int .i64 2, .int .i64 1, .int .i64 1, .int .i64 2, .int .i64 2, .int .i64 1, .int .i64 1, .int .i64 2, .int .i64 2, .int .i64 2, .int .i64 3, .int .i64 1, .int .i64 1, .int .i64 2, .int .i64 2, .int .i64 2, .int .i64 1, .int .i64 1, .int .i64 2, .int .i64 2, .int .i64 2, .int .i64 2, .int .i64 2, .int .i64 2, .int .i64 2, .int .i64 2, .int .i64 2, .int .i64 2, .int .i64 2, .int .i64 1, .int .i64 1, .int .i64 1, .int .i64 1, .int .i64 2, .int .i64 1, .int .i64 1, .int .i64 2, .int .i64 2, .int .i64 1, .int .i64 1, .int .i64 0, .int .i64 3, .int .i64 3, .int .i64 2, .int .i64 1, .int .i64 1] 3] = V := ⟨_, rfl⟩
  have HO : Hid (Out 0 0 w V) := hid_mk (by rw [← hV]; exact lay_out _ w)
  have bP := lay_bl hh hV 0 rfl
  rw [Nat.add_zero] at bP
  have bI := lay_bl hh hV 1 rfl
  have b1 : Bl V (h + 2) (ivs fstL).toArray 3 := lay_bl hh hV 2 rfl
  have b2 : Bl V (h + 3) (ivs gvnL).toArray 3 := lay_bl hh hV 3 rfl
  have b3 : Bl V (h + 4) (ivs latL).toArray 3 := lay_bl hh hV 4 rfl
  have x0 := bI.cell (i := 0) rfl
  have x1 := bI.cell (i := 1) rfl
  have p2 := bP.cell (i := 2) rfl
  have c1 := tb_cell b1 (j := 21) rfl
  have c2 := tb_cell b2 (j := 21) rfl
  simp only [layAll] at hV
  clear bP bI b1 b2 b3
  go_enter Tryd.func19, Tryd.ntmps19
  go_wp2
  go_region
  go_wp2
  go_ret3
  exact ⟨rfl, HO.out.drew⟩
set_option maxRecDepth 100000 in
set_option maxHeartbeats 2000000 in
theorem eff_17 {w : World} (x : Int) (ta : Option Addr) (nt tc : Nat) (fa : Option Addr) (nf fc : Nat) {op a : Int} (hop : op = 17) (ha : 0 ≤ a ∧ a ≤ 8) : Calls Tryd.prog 19 #[.agg #[.int .i64 x, .slice ta nt tc, .slice fa nf fc], .agg #[.int .i64 op, .int .i64 a]] w fun e w' => e = .returned (.tuple #[.int .i64 (a + 1), .int .i64 1, .bool true]) ∧ Out 0 0 w w' := by
  subst hop
  obtain ⟨h, hh⟩ : ∃ h, w.heap.size = h := ⟨_, rfl⟩
  obtain ⟨V, hV⟩ : ∃ V, layAll w [.cells #[.int .i64 x, .slice ta nt tc, .slice fa nf fc] 35, .cells #[.int .i64 17, .int .i64 a] 28, .cells #[.int .i64 0, .int .i64 0, .int .i64 0, .int .i64 0, .int .i64 0, .int .i64 0, .int .i64 1, .int .i64 0, .int .i64 0, .int .i64 1, .int .i64 1, .int .i64 1, .int .i64 2, .int .i64 0, .int .i64 1, .int .i64 0, .int .i64 0, .int .i64 0, .int .i64 1, .int .i64 1, .int .i64 1, .int .i64 1] 3, .cells #[.int .i64 1, .int .i64 1, .int .i64 1, .int .i64 1, .int .i64 1, .int .i64 1, .int .i64 0, .int .i64 1, .int .i64 1, .int .i64 0, .int .i64 0, .int .i64 2, .int .i64 2, .int .i64 0, .int .i64 0, .int .i64 1, .int .i64 1, .int .i64 0, .int .i64 0, .int .i64 1, .int .i64 0, .int .i64 0] 3, .cells #[.int .i64 2, .int .i64 1, .int .i64 1, .int .i64 2, .int .i64 2, .int .i64 1, .int .i64 1, .int .i64 2, .int .i64 2, .int .i64 2, .int .i64 3, .int .i64 1, .int .i64 1, .int .i64 2, .int .i64 2, .int .i64 2, .int .i64 1, .int .i64 1, .int .i64 2, .int .i64 2, .int .i64 2, .int .i64 2, .int .i64 2, .int .i64 2, .int .i64 2, .int .i64 2, .int .i64 2, .int .i64 2, .int .i64 2, .int .i64 1, .int .i64 1, .int .i64 1, .int .i64 1, .int .i64 2, .int .i64 1, .int .i64 1, .int .i64 2, .int .i64 2, .int .i64 1, .int .i64 1, .int .i64 0, .int .i64 3, .int .i64 3, .int .i64 2, .int .i64 1, .int .i64 1] 3] = V := ⟨_, rfl⟩
  have HO : Hid (Out 0 0 w V) := hid_mk (by rw [← hV]; exact lay_out _ w)
  have bP := lay_bl hh hV 0 rfl
  rw [Nat.add_zero] at bP
  have bI := lay_bl hh hV 1 rfl
  have b1 : Bl V (h + 2) (ivs fstL).toArray 3 := lay_bl hh hV 2 rfl
  have b2 : Bl V (h + 3) (ivs gvnL).toArray 3 := lay_bl hh hV 3 rfl
  have b3 : Bl V (h + 4) (ivs latL).toArray 3 := lay_bl hh hV 4 rfl
  have x0 := bI.cell (i := 0) rfl
  have x1 := bI.cell (i := 1) rfl
  have p2 := bP.cell (i := 2) rfl
  have c1 := tb_cell b1 (j := 16) rfl
  have c2 := tb_cell b2 (j := 16) rfl
  have ha0 := ha.1
  have ha1 := ha.2
  clear ha
  simp only [layAll] at hV
  clear bP bI b1 b2 b3
  go_enter Tryd.func19, Tryd.ntmps19
  go_wp2
  go_region
  go_wp2
  go_ret3
  exact ⟨rfl, HO.out.drew⟩
end Go.Proofs.YthijkfcobkdihaaDoor
namespace Go.Proofs.YthijkfcobkdihaaDoor
open Go.RowKit
set_option linter.unusedVariables false

set_option maxRecDepth 100000 in
set_option maxHeartbeats 2000000 in
theorem eff_18 {w : World} (x : Int) (ta : Option Addr) (nt tc : Nat) (fa : Option Addr) (nf fc : Nat) {op a : Int} (hop : op = 18) (ha : 0 ≤ a ∧ a ≤ 8) : Calls Tryd.prog 19 #[.agg #[.int .i64 x, .slice ta nt tc, .slice fa nf fc], .agg #[.int .i64 op, .int .i64 a]] w fun e w' => e = .returned (.tuple #[.int .i64 (a + 1), .int .i64 0, .bool false]) ∧ Out 0 0 w w' := by
  subst hop
  obtain ⟨h, hh⟩ : ∃ h, w.heap.size = h := ⟨_, rfl⟩
  obtain ⟨V, hV⟩ : ∃ V, layAll w [.cells #[.int .i64 x, .slice ta nt tc, .slice fa nf fc] 35, .cells #[.int .i64 18, .int .i64 a] 28, .cells #[.int .i64 0, .int .i64 0, .int .i64 0, .int .i64 0, .int .i64 0, .int .i64 0, .int .i64 1, .int .i64 0, .int .i64 0, .int .i64 1, .int .i64 1, .int .i64 1, .int .i64 2, .int .i64 0, .int .i64 1, .int .i64 0, .int .i64 0, .int .i64 0, .int .i64 1, .int .i64 1, .int .i64 1, .int .i64 1] 3, .cells #[.int .i64 1, .int .i64 1, .int .i64 1, .int .i64 1, .int .i64 1, .int .i64 1, .int .i64 0, .int .i64 1, .int .i64 1, .int .i64 0, .int .i64 0, .int .i64 2, .int .i64 2, .int .i64 0, .int .i64 0, .int .i64 1, .int .i64 1, .int .i64 0, .int .i64 0, .int .i64 1, .int .i64 0, .int .i64 0] 3, .cells #[.int .i64 2, .int .i64 1, .int .i64 1, .int .i64 2, .int .i64 2, .int .i64 1, .int .i64 1, .int .i64 2, .int .i64 2, .int .i64 2, .int .i64 3, .int .i64 1, .int .i64 1, .int .i64 2, .int .i64 2, .int .i64 2, .int .i64 1, .int .i64 1, .int .i64 2, .int .i64 2, .int .i64 2, .int .i64 2, .int .i64 2, .int .i64 2, .int .i64 2, .int .i64 2, .int .i64 2, .int .i64 2, .int .i64 2, .int .i64 1, .int .i64 1, .int .i64 1, .int .i64 1, .int .i64 2, .int .i64 1, .int .i64 1, .int .i64 2, .int .i64 2, .int .i64 1, .int .i64 1, .int .i64 0, .int .i64 3, .int .i64 3, .int .i64 2, .int .i64 1, .int .i64 1] 3] = V := ⟨_, rfl⟩
  have HO : Hid (Out 0 0 w V) := hid_mk (by rw [← hV]; exact lay_out _ w)
  have bP := lay_bl hh hV 0 rfl
  rw [Nat.add_zero] at bP
  have bI := lay_bl hh hV 1 rfl
  have b1 : Bl V (h + 2) (ivs fstL).toArray 3 := lay_bl hh hV 2 rfl
  have b2 : Bl V (h + 3) (ivs gvnL).toArray 3 := lay_bl hh hV 3 rfl
  have b3 : Bl V (h + 4) (ivs latL).toArray 3 := lay_bl hh hV 4 rfl
  have x0 := bI.cell (i := 0) rfl
  have x1 := bI.cell (i := 1) rfl
  have p2 := bP.cell (i := 2) rfl
  have c1 := tb_cell b1 (j := 17) rfl
  have c2 := tb_cell b2 (j := 17) rfl
  have ha0 := ha.1
  have ha1 := ha.2
  clear ha
  simp only [layAll] at hV
  clear bP bI b1 b2 b3
  go_enter Tryd.func19, Tryd.ntmps19
  go_wp2
  go_region
  go_wp2
  go_ret3
  exact ⟨rfl, HO.out.drew⟩
set_option maxRecDepth 100000 in
set_option maxHeartbeats 2000000 in
theorem eff_16 {w : World} {B : Nat} (x : Int) (ta : Option Addr) (nt tc : Nat) (fa : Option Addr) (nf fc : Nat) {fs : List (Int × Int × Int × List (Int × Int))} {op a : Int} (hop : op = 16) (hfs : FnIn w B fa fs) (hnf : fs.length = nf) (hB : B ≤ w.heap.size) (ha : 0 ≤ a ∧ a < (nf : Int)) : Calls Tryd.prog 19 #[.agg #[.int .i64 x, .slice ta nt tc, .slice fa nf fc], .agg #[.int .i64 op, .int .i64 a]] w fun e w' => e = .returned (.tuple #[.int .i64 (cpV fs a), .int .i64 1, .bool true]) ∧ Out 0 0 w w' := by
  subst hop
  obtain ⟨m, rfl⟩ : ∃ m : Nat, a = (m : Int) := ⟨a.toNat, by omega⟩
  obtain ⟨f, hf⟩ : ∃ f, fs[m]? = some f := ⟨_, List.getElem?_eq_getElem (by omega)⟩
  have e : cpV fs (m : Int) = f.2.2.1 := by unfold cpV; simp [hf]
  rw [e]
  obtain ⟨q, off, pj, cj, rfl, hq, c0, c1', c2', c3, c4⟩ := fn_cells hfs hf
  obtain ⟨h, hh⟩ : ∃ h, w.heap.size = h := ⟨_, rfl⟩
  obtain ⟨V, hV⟩ : ∃ V, layAll w [.cells #[.int .i64 x, .slice ta nt tc, .slice (some ⟨q, off, none⟩) nf fc] 35, .cells #[.int .i64 16, .int .i64 m] 28, .cells #[.int .i64 0, .int .i64 0, .int .i64 0, .int .i64 0, .int .i64 0, .int .i64 0, .int .i64 1, .int .i64 0, .int .i64 0, .int .i64 1, .int .i64 1, .int .i64 1, .int .i64 2, .int .i64 0, .int .i64 1, .int .i64 0, .int .i64 0, .int .i64 0, .int .i64 1, .int .i64 1, .int .i64 1, .int .i64 1] 3, .cells #[.int .i64 1, .int .i64 1, .int .i64 1, .int .i64 1, .int .i64 1, .int .i64 1, .int .i64 0, .int .i64 1, .int .i64 1, .int .i64 0, .int .i64 0, .int .i64 2, .int .i64 2, .int .i64 0, .int .i64 0, .int .i64 1, .int .i64 1, .int .i64 0, .int .i64 0, .int .i64 1, .int .i64 0, .int .i64 0] 3, .cells #[.int .i64 2, .int .i64 1, .int .i64 1, .int .i64 2, .int .i64 2, .int .i64 1, .int .i64 1, .int .i64 2, .int .i64 2, .int .i64 2, .int .i64 3, .int .i64 1, .int .i64 1, .int .i64 2, .int .i64 2, .int .i64 2, .int .i64 1, .int .i64 1, .int .i64 2, .int .i64 2, .int .i64 2, .int .i64 2, .int .i64 2, .int .i64 2, .int .i64 2, .int .i64 2, .int .i64 2, .int .i64 2, .int .i64 2, .int .i64 1, .int .i64 1, .int .i64 1, .int .i64 1, .int .i64 2, .int .i64 1, .int .i64 1, .int .i64 2, .int .i64 2, .int .i64 1, .int .i64 1, .int .i64 0, .int .i64 3, .int .i64 3, .int .i64 2, .int .i64 1, .int .i64 1] 3] = V := ⟨_, rfl⟩
  have HO : Hid (Out 0 0 w V) := hid_mk (by rw [← hV]; exact lay_out _ w)
  have bP := lay_bl hh hV 0 rfl
  rw [Nat.add_zero] at bP
  have bI := lay_bl hh hV 1 rfl
  have b1 : Bl V (h + 2) (ivs fstL).toArray 3 := lay_bl hh hV 2 rfl
  have b2 : Bl V (h + 3) (ivs gvnL).toArray 3 := lay_bl hh hV 3 rfl
  have b3 : Bl V (h + 4) (ivs latL).toArray 3 := lay_bl hh hV 4 rfl
  have x0 := bI.cell (i := 0) rfl
  have x1 := bI.cell (i := 1) rfl
  have p2 := bP.cell (i := 2) rfl
  have c1 := tb_cell b1 (j := 15) rfl
  have c2 := tb_cell b2 (j := 15) rfl
  have cq := HO.out.cell c2' (.inr (Nat.zero_le _))
  have d1 : decide ((0 : Int) ≤ (m : Int)) = true := by simp
  have d2 : decide ((m : Int) < (nf : Int)) = true := by simp; omega
  have d3 : decide (m < nf) = true := by simp; omega
  have d4 : (m : Int) < (nf : Int) := by omega
  clear c0 c1' c2' c3 c4 ha hfs hnf hB hq e hf
  simp only [layAll] at hV
  clear bP bI b1 b2 b3
  go_enter Tryd.func19, Tryd.ntmps19
  go_wp2
  go_region
  go_wp2
  go_ret3
  exact ⟨rfl, HO.out.drew⟩
end Go.Proofs.YthijkfcobkdihaaDoor
namespace Go.Proofs.YthijkfcobkdihaaDoor
open Go.RowKit
set_option linter.unusedVariables false

theorem effect_any {w : World} {B n : Nat} (x : Int) (ta : Option Addr) (nt tc : Nat) (fa : Option Addr) (nf fc : Nat) {fs : List (Int × Int × Int × List (Int × Int))} {op a : Int} (hx : OkX nf n fs (op, a)) (hfs : FnIn w B fa fs) (hnf : fs.length = nf) (hB : B ≤ w.heap.size) : Calls Tryd.prog 19 #[.agg #[.int .i64 x, .slice ta nt tc, .slice fa nf fc], .agg #[.int .i64 op, .int .i64 a]] w fun e w' => e = .returned (.tuple #[.int .i64 (tkV fs (op, a)), .int .i64 (ptV op), .bool (goB op)]) ∧ Out 0 0 w w' := by
  obtain ⟨h1, h2, h3, h4, h5⟩ := hx
  simp only [] at h1 h2 h3
  rcases op_big h1 with ⟨j, hj, e⟩ | ⟨j, hj, e⟩
  · have ht : tkV fs (op, a) = tkS op := tk_plain fs (by omega)
    obtain ⟨_, q2, q3⟩ := lat_at j hj
    rw [ht, e, q2, q3, ← e]
    exact eff_big x ta nt tc fa nf fc hj e rfl
  · by_cases c16 : op = 16
    · subst c16
      rw [show tkV fs (16, a) = cpV fs a by unfold tkV; rw [if_pos rfl]]
      exact eff_16 x ta nt tc fa nf fc rfl hfs hnf hB (h2 rfl)
    by_cases c17 : op = 17
    · subst c17
      rw [show tkV fs (17, a) = a + 1 by unfold tkV; rw [if_neg (show ¬ ((17 : Int) = 16) by decide), if_pos (.inl rfl)]]
      exact eff_17 x ta nt tc fa nf fc rfl (h3 (.inl rfl))
    by_cases c18 : op = 18
    · subst c18
      rw [show tkV fs (18, a) = a + 1 by unfold tkV; rw [if_neg (show ¬ ((18 : Int) = 16) by decide), if_pos (.inr rfl)]]
      exact eff_18 x ta nt tc fa nf fc rfl (h3 (.inr rfl))
    rw [tk_plain fs (by omega)]
    by_cases c14 : op = 14
    · subst c14; exact eff_14 x ta nt tc fa nf fc rfl
    by_cases c19 : op = 19
    · subst c19; exact eff_19 x ta nt tc fa nf fc rfl
    by_cases c21 : op = 21
    · subst c21; exact eff_21 x ta nt tc fa nf fc rfl
    by_cases c22 : op = 22
    · subst c22; exact eff_22 x ta nt tc fa nf fc rfl
    have hg : goB op = true := by unfold goB; simp [c14, c18, c19, c21, c22]
    rw [hg]
    refine eff_low x ta nt tc fa nf fc hj e (by rw [fst_at j hj (by omega) (by omega) (by omega), ← e]) (by rw [gvn_at j hj, ← e]) ?_ ?_ ?_ ?_ ?_ ?_ ?_ ?_ <;> simpa
end Go.Proofs.YthijkfcobkdihaaDoor
namespace Go.Proofs.YthijkfcobkdihaaDoor
open Go.RowKit
set_option linter.unusedVariables false

theorem on_er {s : List Int × List Nat} {n i : Nat} {op d e : Int} (h : nxF n i op d s = .inl e) : e ≠ 0 := by
  unfold nxF at h
  split at h
  · split at h
    · split at h
      · cases h
      · cases h; decide
    · cases h; decide
  · cases h
theorem ju_er {s : List Int × List Nat} {op a d e : Int} (h : juF op a d s = .inl e) : e ≠ 0 := by
  unfold juF at h
  split at h
  · split at h
    · cases h
    · cases h; decide
  · cases h
theorem st_ne {t : Int} {n i : Nat} {x : Int × Int} {s : List Int × List Nat} {e : Int} (h : stF t n i x s = .inl e) : e ≠ 0 := by
  unfold stF at h
  split at h
  · cases h; decide
  split at h
  · cases h; decide
  split at h
  · rename_i e' h2
    cases h
    exact on_er h2
  · exact ju_er h
theorem wy_ne {tk : Int × Int → Int} {C : List (Int × Int)} : ∀ {k : Nat} {s : List Int × List Nat} {e : Int} {i : Nat}, wyF tk C k s = .inl (e, i) → e ≠ 0
  | 0, s, e, i, h => by simp only [wyF] at h; cases h
  | k + 1, (D, []), e, i, h => by simp only [wyF] at h; cases h
  | k + 1, (D, j :: R), e, i, h => by
    simp only [wyF] at h
    split at h
    · rename_i e' h2
      cases h
      exact st_ne h2
    · exact wy_ne h
theorem gn_ne {fs : List (Int × Int × Int × List (Int × Int))} : ∀ {l : List (Int × Int × Int × List (Int × Int))} {k : Nat} {S : List Int} {Ds : List (List Int)} {e : Int} {f i : Nat}, gnF fs k S Ds l = .inl (e, f, i) → e ≠ 0
  | [], k, S, Ds, e, f, i, h => by simp only [gnF] at h; cases h
  | g :: l, k, S, Ds, e, f, i, h => by
    unfold gnF at h
    split at h
    · rename_i e' i' h2
      cases h
      exact wy_ne h2
    · exact gn_ne h
theorem ptI_ne {rt : Int × Int → Bool} {n : Nat} : ∀ {l : List (Int × Int)} {i : Nat} {e : Int} {j : Nat}, ptI rt n i l = some (e, j) → e ≠ 0
  | [], i, e, j, h => by simp [ptI] at h
  | x :: l, i, e, j, h => by
    unfold ptI at h
    split at h
    · cases h; decide
    split at h
    · cases h; decide
    · exact ptI_ne h
theorem ptF_ne {g : Int} {nt nf : Nat} : ∀ {l : List (Int × Int × Int × List (Int × Int))} {k : Nat} {e : Int} {f i : Nat}, ptF g nt nf k l = some (e, f, i) → e ≠ 0
  | [], k, e, f, i, h => by simp [ptF] at h
  | y :: l, k, e, f, i, h => by
    unfold ptF at h
    split at h
    · cases h; decide
    split at h
    · rename_i e' i' h2
      cases h
      exact ptI_ne h2
    · exact ptF_ne h
theorem ck_ne {P : Int × List (List Int) × List (Int × Int × Int × List (Int × Int))} {e : Int} {f i : Nat} (h : ckV P = .inl (e, f, i)) : e ≠ 0 := by
  unfold ckV at h
  split at h
  · unfold chF at h
    split at h
    · cases h; decide
    split at h
    · rename_i q h2
      cases h
      exact ptF_ne h2
    · exact gn_ne h
  · cases h; decide
/-- what is known of a function of a program that is checked -/
def FnK (fs : List (Int × Int × Int × List (Int × Int))) (nf : Nat) (k : Nat) (f : Int × Int × Int × List (Int × Int)) (D : List Int) : Prop := Dep fs f.2.2.2 D ∧ (∀ y ∈ f.2.2.2, OkX nf f.2.2.2.length fs y) ∧ f.2.2.2.length ≤ 4096 ∧ 0 ≤ f.2.1 ∧ f.2.1 ≤ 64
theorem ck_fn {x : Int} {ts : List (List Int)} {fs : List (Int × Int × Int × List (Int × Int))} {S : List Int} {Ds : List (List Int)} (h : ckV (x, ts, fs) = .inr (S, Ds)) : okP (x, ts, fs) ∧ S.length = fs.length ∧ Ds.length = fs.length ∧ ∀ (k : Nat) f, fs[k]? = some f → ∃ D, Ds[k]? = some D ∧ FnK fs fs.length k f D ∧ S[k]? = some (f.2.1 + mxL D) := by
  unfold ckV at h
  split at h
  · rename_i hw
    have ho := (wr_zero hw).1
    obtain ⟨h1, h2, h3, h4⟩ := ch_ok h
    refine ⟨ho, h2, h3, fun k f hf => ?_⟩
    obtain ⟨D, d1, d2, d3⟩ := h4 k f hf
    have hm := List.mem_of_getElem? hf
    obtain ⟨q1, q2, q3⟩ := h1 f hm
    obtain ⟨p1, p2, p3, p4, p5⟩ := ho.2.2.2.2 f hm
    exact ⟨D, d1, ⟨dep_of q2 d2, fun y hy => ok_x (fun f' hf' => (ho.2.2.2.2 f' hf').2.2.1) (p5 y hy) (q3 y hy).1 (q3 y hy).2, p4, p2.1, p2.2⟩, d3⟩
  · cases h
theorem FnK.mx {fs : List (Int × Int × Int × List (Int × Int))} {nf k : Nat} {f : Int × Int × Int × List (Int × Int)} {D : List Int} (h : FnK fs nf k f D) : 0 ≤ mxL D ∧ mxL D ≤ 64 := ⟨mx_nn D, mx_le (by decide) fun j d q => (h.1.2.1 j d q).2⟩
/-- the cells of what Check told -/
theorem ck_cells {w' : World} {lo : Nat} {sv dv : Value} {S : List Int} {Ds : List (List Int)} {dgs : List Nat} (h : CkAt w' lo sv dv S Ds dgs) {k : Nat} {s : Int} {D : List Int} (hs : S[k]? = some s) (hd : Ds[k]? = some D) : ∃ q c dq d dg, sv = .slice (some ⟨q, 0, none⟩) S.length c ∧ w'.cell? ⟨q, k, none⟩ = some (.int .i64 s) ∧ dv = .slice (some ⟨dq, 0, none⟩) Ds.length d ∧ w'.cell? ⟨dq, k, none⟩ = some (.slice (some ⟨dg, 0, none⟩) D.length D.length) ∧ Bl w' dg (ivs D).toArray 3 := by
  obtain ⟨h1, h2, h3, h4, _⟩ := h
  have hk1 := (List.getElem?_eq_some_iff.1 hs).1
  have hk2 := (List.getElem?_eq_some_iff.1 hd).1
  obtain ⟨dg, hdg⟩ : ∃ dg, dgs[k]? = some dg := ⟨_, List.getElem?_eq_getElem (by omega)⟩
  obtain ⟨_, hb⟩ := h4 k dg D hdg hd
  rcases h1.2 with ⟨_, q⟩ | ⟨q, c, cur, rfl, _, q2, _, _, _, q6⟩
  · omega
  rcases h2.2 with ⟨_, q⟩ | ⟨dq, d, dcur, rfl, _, p2, _, _, _, p6⟩
  · omega
  have B1 : Bl w' q cur 3 := q2
  have B2 : Bl w' dq dcur 50 := p2
  rw [Nat.mul_one] at q6 p6
  refine ⟨q, c, dq, d, dg, rfl, B1.cell ?_, rfl, B2.cell ?_, hb⟩
  · have := ivs_is hs
    rw [← q6, List.getElem?_take_of_lt (by omega)] at this
    simpa using this
  · have := dvs_at hdg hd
    rw [← p6, List.getElem?_take_of_lt (by omega)] at this
    simpa using this
/-- a step of a way -/
theorem way_step {fs : List (Int × Int × Int × List (Int × Int))} {nf k : Nat} {f : Int × Int × Int × List (Int × Int)} {D : List Int} (h : FnK fs nf k f D) {i : Nat} {d op a : Int} (hx : f.2.2.2[i]? = some (op, a)) (hd : D[i]? = some d) (h0 : 0 ≤ d) : d ≤ 64 ∧ 0 ≤ d - tkV fs (op, a) ∧ d - tkV fs (op, a) + ptV op ≤ 64 ∧ (goB op = true → i + 1 < f.2.2.2.length ∧ D[i + 1]? = some (d - tkV fs (op, a) + ptV op) ∧ d - tkV fs (op, a) + ptV op ≤ mxL D) ∧ (juB op = true → 0 ≤ a ∧ a < (f.2.2.2.length : Int) ∧ D[a.toNat]? = some (d - tkV fs (op, a) + ptV op)) := by
  obtain ⟨x, d', q1, q2, q3, q4, q5, q6⟩ := h.1.2.2.2.1 i d hd (by omega)
  rw [hx] at q1
  rw [hd] at q2
  cases q1
  cases q2
  have hb := h.1.2.1 i d hd
  refine ⟨hb.2, q3, q4, fun e => ⟨(q5 e).1, (q5 e).2, mx_ge (q5 e).2⟩, fun e => ?_⟩
  obtain ⟨_, _, _, o4, _⟩ := h.2.1 _ (List.mem_of_getElem? hx)
  exact ⟨(o4 e).1, (o4 e).2, q6 e⟩
end Go.Proofs.YthijkfcobkdihaaDoor
namespace Go.Proofs.YthijkfcobkdihaaDoor
open Go.RowKit
set_option linter.unusedVariables false

/-- marks as cells -/
def bls (M : List Bool) : List Value := M.map Value.bool
theorem bls_set (M : List Bool) (j : Nat) : (bls M).toArray.setIfInBounds j (.bool true) = (bls (M.set j true)).toArray := by simp [bls, List.map_set]
theorem bls_at {M : List Bool} {j : Nat} {b : Bool} (h : M[j]? = some b) : (bls M).toArray[j]? = some (.bool b) := by simp [bls, h]
/-- the marks behind the first i instructions -/
def MS (C : List (Int × Int)) (D : List Int) (i : Nat) (M : List Bool) : Prop := M.length = C.length ∧ (∀ j : Nat, M[j]? = some true → ∃ d, D[j]? = some d ∧ 0 ≤ d) ∧ M[0]? = some true ∧ ∀ (i' : Nat) x d, i' < i → C[i']? = some x → D[i']? = some d → 0 ≤ d → (goB x.1 = true → M[i' + 1]? = some true) ∧ (juB x.1 = true → M[x.2.toNat]? = some true)
variable {C : List (Int × Int)} {D : List Int} {i : Nat} {M : List Bool}
theorem set_true {j k : Nat} (h : M[k]? = some true) : (M.set j true)[k]? = some true := by
  have hk := (List.getElem?_eq_some_iff.1 h).1
  rw [List.getElem?_set]
  split
  · rw [if_pos (by omega)]
  · exact h
theorem set_here {j : Nat} (h : j < M.length) : (M.set j true)[j]? = some true := by
  rw [List.getElem?_set, if_pos rfl, if_pos h]
theorem set_back {j k : Nat} (h : (M.set j true)[k]? = some true) : k = j ∨ M[k]? = some true := by
  rw [List.getElem?_set] at h
  split at h
  · exact .inl (by omega)
  · exact .inr h
theorem MS.start (hC : 0 < C.length) (hD : D[0]? = some 0) : MS C D 0 ((List.replicate C.length false).set 0 true) := by
  refine ⟨by simp, fun j hj => ?_, set_here (by simpa using hC), fun i' x d h => absurd h (Nat.not_lt_zero _)⟩
  rcases set_back hj with rfl | h
  · exact ⟨0, hD, by decide⟩
  · rw [List.getElem?_replicate] at h
    split at h <;> cases h
theorem MS.skip (h : MS C D i M) {d : Int} (hd : D[i]? = some d) (h0 : d < 0) : MS C D (i + 1) M := by
  refine ⟨h.1, h.2.1, h.2.2.1, fun i' x d' h1 h2 h3 h4 => ?_⟩
  by_cases e : i' = i
  · subst e
    rw [hd] at h3
    cases h3
    omega
  · exact h.2.2.2 i' x d' (by omega) h2 h3 h4
def mk1 (op : Int) (i : Nat) (M : List Bool) : List Bool := if goB op = true then M.set (i + 1) true else M
def mk2 (op a : Int) (M : List Bool) : List Bool := if juB op = true then M.set a.toNat true else M
theorem mk1_len (op : Int) (i : Nat) (M : List Bool) : (mk1 op i M).length = M.length := by unfold mk1; split <;> simp
theorem mk2_len (op a : Int) (M : List Bool) : (mk2 op a M).length = M.length := by unfold mk2; split <;> simp
theorem mk1_true {op : Int} {k : Nat} (h : M[k]? = some true) : (mk1 op i M)[k]? = some true := by
  unfold mk1; split
  · exact set_true h
  · exact h
theorem mk2_true {op a : Int} {k : Nat} (h : M[k]? = some true) : (mk2 op a M)[k]? = some true := by
  unfold mk2; split
  · exact set_true h
  · exact h
theorem MS.step (h : MS C D i M) {op a : Int} (hx : C[i]? = some (op, a)) (hg : goB op = true → i + 1 < C.length ∧ ∃ d', D[i + 1]? = some d' ∧ 0 ≤ d') (hj : juB op = true → a.toNat < C.length ∧ ∃ d', D[a.toNat]? = some d' ∧ 0 ≤ d') : MS C D (i + 1) (mk2 op a (mk1 op i M)) := by
  refine ⟨by rw [mk2_len, mk1_len]; exact h.1, fun j q => ?_, mk2_true (mk1_true h.2.2.1), fun i' x d' h1 h2 h3 h4 => ?_⟩
  · have q2 : (juB op = true ∧ j = a.toNat) ∨ (mk1 op i M)[j]? = some true := by
      unfold mk2 at q
      split at q
      · rcases set_back q with e | e
        · exact .inl ⟨by assumption, e⟩
        · exact .inr e
      · exact .inr q
    rcases q2 with ⟨q3, rfl⟩ | q3
    · exact (hj q3).2
    · unfold mk1 at q3
      split at q3
      · rcases set_back q3 with rfl | e
        · exact (hg (by assumption)).2
        · exact h.2.1 j e
      · exact h.2.1 j q3
  · by_cases e : i' = i
    · subst e
      rw [hx] at h2
      cases h2
      refine ⟨fun q => mk2_true ?_, fun q => ?_⟩
      · unfold mk1
        rw [if_pos q]
        exact set_here (by have := (hg q).1; have := h.1; omega)
      · unfold mk2
        rw [if_pos q]
        exact set_here (by rw [mk1_len]; have := (hj q).1; have := h.1; omega)
    · obtain ⟨z1, z2⟩ := h.2.2.2 i' x d' (by omega) h2 h3 h4
      exact ⟨fun q => mk2_true (mk1_true (z1 q)), fun q => mk2_true (mk1_true (z2 q))⟩
theorem MS.end {fs : List (Int × Int × Int × List (Int × Int))} (h : MS C D C.length M) (hD : Dep fs C D) {j : Nat} {d : Int} (hj : D[j]? = some d) : M[j]? = some (decide (0 ≤ d)) := by
  have hlt := (List.getElem?_eq_some_iff.1 hj).1
  have hl := hD.1
  obtain ⟨b, hb⟩ : ∃ b, M[j]? = some b := ⟨_, List.getElem?_eq_getElem (by have := h.1; omega)⟩
  rw [hb]
  cases b with
  | true =>
    obtain ⟨d', e1, e2⟩ := h.2.1 j hb
    rw [hj] at e1
    cases e1
    rw [decide_eq_true e2]
  | false =>
    by_cases h0 : 0 ≤ d
    · exfalso
      rcases hD.2.2.2.2 j d hj (by omega) with rfl | ⟨i, x, d1, c1, c2, c3, c4⟩
      · rw [h.2.2.1] at hb; cases hb
      · obtain ⟨z1, z2⟩ := h.2.2.2 i x d1 (List.getElem?_eq_some_iff.1 c1).1 c1 c2 c3
        rcases c4 with ⟨g, rfl⟩ | ⟨g, rfl⟩
        · rw [z1 g] at hb; cases hb
        · rw [z2 g] at hb; cases hb
    · rw [decide_eq_false h0]
theorem top_skip {d : Int} (hd : D[i]? = some d) (h0 : d < 0) : mxL (D.take (i + 1)) = mxL (D.take i) := by
  rw [mx_take hd]
  have := mx_nn (D.take i)
  omega
theorem top_new {d : Int} (hd : D[i]? = some d) (h0 : mxL (D.take i) < d) : mxL (D.take (i + 1)) = d := by
  rw [mx_take hd]
  omega
theorem top_old {d : Int} (hd : D[i]? = some d) (h0 : ¬ mxL (D.take i) < d) : mxL (D.take (i + 1)) = mxL (D.take i) := by
  rw [mx_take hd]
  omega
/-- a step of a way, in the marks' words -/
theorem MS.way {fs : List (Int × Int × Int × List (Int × Int))} {nf k : Nat} {f : Int × Int × Int × List (Int × Int)} (h : MS f.2.2.2 D i M) (hK : FnK fs nf k f D) {op a d : Int} (hx : f.2.2.2[i]? = some (op, a)) (hd : D[i]? = some d) (h0 : 0 ≤ d) : MS f.2.2.2 D (i + 1) (mk2 op a (mk1 op i M)) ∧ (goB op = true → i + 1 < f.2.2.2.length) ∧ (juB op = true → 0 ≤ a ∧ a < (f.2.2.2.length : Int)) := by
  obtain ⟨w1, w2, w3, w4, w5⟩ := way_step hK hx hd h0
  have hp := pt_nn op
  refine ⟨h.step hx (fun q => ⟨(w4 q).1, _, (w4 q).2.1, by omega⟩) (fun q => ⟨by have := w5 q; omega, _, (w5 q).2.2, by omega⟩), fun q => (w4 q).1, fun q => ⟨(w5 q).1, (w5 q).2.1⟩⟩
/-- the cells of all that Check told -/
theorem ck_all {w' : World} {lo nf : Nat} {sv dv : Value} {S : List Int} {Ds : List (List Int)} {dgs : List Nat} (h : CkAt w' lo sv dv S Ds dgs) (hS : S.length = nf) (hD : Ds.length = nf) (h0 : 0 < nf) : ∃ q c dq d, sv = .slice (some ⟨q, 0, none⟩) nf c ∧ dv = .slice (some ⟨dq, 0, none⟩) nf d ∧ ∀ (k : Nat) s D, S[k]? = some s → Ds[k]? = some D → ∃ dg, w'.cell? ⟨q, k, none⟩ = some (.int .i64 s) ∧ w'.cell? ⟨dq, k, none⟩ = some (.slice (some ⟨dg, 0, none⟩) D.length D.length) ∧ Bl w' dg (ivs D).toArray 3 := by
  obtain ⟨s0, hs0⟩ : ∃ s, S[0]? = some s := ⟨_, List.getElem?_eq_getElem (by omega)⟩
  obtain ⟨D0, hd0⟩ : ∃ s, Ds[0]? = some s := ⟨_, List.getElem?_eq_getElem (by omega)⟩
  obtain ⟨q, c, dq, d, dg, e1, _, e2, _, _⟩ := ck_cells h hs0 hd0
  rw [hS] at e1
  rw [hD] at e2
  refine ⟨q, c, dq, d, e1, e2, fun k s D z1 z2 => ?_⟩
  obtain ⟨q', c', dq', d', dg', e3, e4, e5, e6, e7⟩ := ck_cells h z1 z2
  rw [e1, hS] at e3
  rw [e2, hD] at e5
  cases e3
  cases e5
  exact ⟨dg', e4, e6, e7⟩
/-- what is read of the functions -/
def TF (W : World) (fs : List (Int × Int × Int × List (Int × Int))) (nf qs qd qf off : Nat) : Prop := ∀ (k : Nat) f, fs[k]? = some f → ∃ D dg pj cj, FnK fs nf k f D ∧ W.cell? ⟨qs, k, none⟩ = some (.int .i64 (f.2.1 + mxL D)) ∧ W.cell? ⟨qd, k, none⟩ = some (.slice (some ⟨dg, 0, none⟩) f.2.2.2.length f.2.2.2.length) ∧ Bl W dg (ivs D).toArray 3 ∧ W.cell? ⟨qf, off + k * 4 + 1, none⟩ = some (.int .i64 f.2.1) ∧ W.cell? ⟨qf, off + k * 4 + 3, none⟩ = some (.slice pj f.2.2.2.length cj) ∧ InIn W W.heap.size pj f.2.2.2
theorem InIn.low2 {w : World} {B C : Nat} {p : Option Addr} {l : List (Int × Int)} (h : InIn w B p l) (hx : B ≤ C) : InIn w C p l := by
  rcases h with h | ⟨g, off, h1, h2, h3⟩
  · exact .inl h
  · exact .inr ⟨g, off, h1, by omega, h3⟩
theorem TF.kept {W W' : World} {fs : List (Int × Int × Int × List (Int × Int))} {nf qs qd qf off : Nat} (h : TF W fs nf qs qd qf off) (o : Out 0 0 W W') : TF W' fs nf qs qd qf off := fun k f hf => by
  obtain ⟨D, dg, pj, cj, h1, h2, h3, h4, h5, h6, h7⟩ := h k f hf
  exact ⟨D, dg, pj, cj, h1, o.cell h2 (.inr (Nat.zero_le _)), o.cell h3 (.inr (Nat.zero_le _)), h4.kept o (.inr (Nat.zero_le _)), o.cell h5 (.inr (Nat.zero_le _)), o.cell h6 (.inr (Nat.zero_le _)), (h7.kept (C := W.heap.size) (Lo.of_out o) (Nat.le_refl _)).low2 o.size⟩
theorem mkb (n : Nat) : madeCells #[Value.bool false] n = (bls (List.replicate n false)).toArray := by
  apply Array.ext
  · simp [madeCells, bls]
  · intro i h1 h2
    simp [madeCells, bls, Nat.mod_one]
end Go.Proofs.YthijkfcobkdihaaDoor
