/- the walks of Ar3 -/
import Derived.Test.YteepkghjphmegabWAr2
namespace Go.Proofs.Yteepkghjphmegab
open Go.ChangeShapes Go.WideShapes Go.ChangeAt Go.RowKit
set_option linter.unusedVariables false
set_option linter.unusedSimpArgs false

theorem fwrap_bit (v : Int) (i : Nat) (h : i < 61) : bit (fwrap v) i = bit v i :=
  bit_congr (m := 61) h (by have e : (2 : Int) ^ 61 = 2305843009213693952 := by decide
                            unfold fwrap; rw [e]; omega)
theorem nat_div_bounds (u : Int) (k : Nat) (h0 : 0 ≤ u) (h1 : u ≤ 1152921504606846976) : 0 ≤ u / 2 ^ k ∧ u / 2 ^ k ≤ 1152921504606846976 := by
  have hp := pow_pos' k
  refine ⟨Int.ediv_nonneg h0 (by omega), ?_⟩
  exact Int.le_trans (Int.ediv_le_self _ h0) h1

set_option maxHeartbeats 1000000 in
theorem refRow_any (v : Int) (w : World) :
    Calls Try.prog 66 #[.int .i64 v] w fun e w' => e = .returned (.agg (arr (bit v))) ∧ Below w.heap.size w w' := by
  have hb := fwrap_bounds v
  obtain ⟨hb0, hb1⟩ := hb
  have hA := ((Blk.new w (fun _ => 0)).alloc (.cells (arr (fun _ => 0)) 55))
  have hD := (Blk.new (w.alloc (.cells (arr (fun _ => 0)) 55)) (fun _ => 0))
  have hW : Below w.heap.size w ((w.alloc (.cells (arr (fun _ => 0)) 55)).alloc (.cells (arr (fun _ => 0)) 55)) :=
    ((Below.refl _ _).alloc (by simp) _).alloc (by simp) _
  simp at hD
  have HB : ∀ i, i < 61 → bit (fwrap v) i = bit v i := fwrap_bit v
  have HHB : Hid (∀ i, i < 61 → bit (fwrap v) i = bit v i) := HB
  clear HB
  by_cases hneg : fwrap v < 0
  · have hU : ∃ u, u = -(fwrap v + 1) := ⟨_, rfl⟩
    obtain ⟨u, hu⟩ := hU
    have hu0 : 0 ≤ u := by omega
    have hu1 : u ≤ 1152921504606846976 := by omega
    have HU : Hid (u = -(fwrap v + 1)) := hu
    go_enter Try.func66, Try.ntmps66
    go_wp2_with (go_at_call 25; refine (refWrap_any _ _).mono ?_; rintro e w' ⟨rfl, rfl⟩)
    simp only [← arr_zero, ← hu]
    clear hu
    go_loopw [0, 5] (fun x i wr => ∃ k : Nat, k ≤ 61 ∧ i = .int .i64 k ∧ x = .int .i64 (u / 2 ^ k) ∧ Blk wr w.heap.size (fun _ => 0) ∧ Blk wr (w.heap.size + 1) (mix k (bit v) (fun _ => 0)) ∧ Below w.heap.size w wr) (fun _ i _ => 61 - (intOf i).toNat)
    case atStart => exact ⟨0, by omega, rfl, by simp, hA, hD.congr (fun i _ => (mix_zero (bit v) (fun _ => 0) i).symm), hW⟩
    case round =>
      clear hA hD hW
      obtain ⟨k, hk, rfl, rfl, hA, hD, hW⟩ := hrel
      obtain ⟨ub0, ub1⟩ := nat_div_bounds u k hu0 hu1
      by_cases hlt : k < 61
      · have cD := hD.cell hlt
        have fD := hD.frozen k
        have cD2 := ((hD.set k (u / 2 ^ k % 2)).cell hlt)
        have fD2 := ((hD.set k (u / 2 ^ k % 2)).frozen k)
        have eU : upd (mix k (bit v) fun x => 0) k (u / 2 ^ k % 2) k = u / 2 ^ k % 2 := by simp [upd]
        rw [eU] at cD2
        clear eU
        go_wp2
        go_roundw
        case rel =>
          refine ⟨k + 1, by omega, by go_num, congrArg (Value.int .i64) (div_succ u k).symm, (hA.setOther (by simp) _).setOther (by simp) _, ?_, (hW.setCell (by simp) _).setCell (by simp) _⟩
          refine ((hD.set k _).set k _).congr (fun i hi => ?_)
          have e := HHB.out k hlt
          have e2 := bit_not u k
          rw [show -u - 1 = fwrap v by have := HU.out; omega, e] at e2
          have := mix_step k (bit v) (fun _ => 0) (1 - u / 2 ^ k % 2) e2 i
          rw [← this]; unfold upd; split <;> rfl
        case measure => simp [intOf]; omega
      · go_wp2_with (first | (refine load61 rfl (.tmp 3) rfl _ rfl _ hD ?_) | (refine store61 rfl (.tmp 2) (.tmp 31) rfl _ rfl _ rfl _ hA ?_))
        refine ret61 Try.results66 rfl rfl (hA.setRow _) ⟨?_, below_setRow' hW (by omega) _⟩
        rw [arr_congr (f := mix k (bit v) (fun _ => 0)) (g := bit v)]
        intro i hi
        have : k = 61 := by omega
        subst this; exact mix_all _ _ i hi
  · have hU : ∃ u, u = fwrap v := ⟨_, rfl⟩
    obtain ⟨u, hu⟩ := hU
    have hu0 : 0 ≤ u := by omega
    have hu1 : u ≤ 1152921504606846976 := by omega
    have HU : Hid (u = fwrap v) := hu
    go_enter Try.func66, Try.ntmps66
    go_wp2_with (go_at_call 25; refine (refWrap_any _ _).mono ?_; rintro e w' ⟨rfl, rfl⟩)
    simp only [← arr_zero, ← hu]
    clear hu
    go_loopw [0, 5] (fun x i wr => ∃ k : Nat, k ≤ 61 ∧ i = .int .i64 k ∧ x = .int .i64 (u / 2 ^ k) ∧ Blk wr w.heap.size (fun _ => 0) ∧ Blk wr (w.heap.size + 1) (mix k (bit v) (fun _ => 0)) ∧ Below w.heap.size w wr) (fun _ i _ => 61 - (intOf i).toNat)
    case atStart => exact ⟨0, by omega, rfl, by simp, hA, hD.congr (fun i _ => (mix_zero (bit v) (fun _ => 0) i).symm), hW⟩
    case round =>
      clear hA hD hW
      obtain ⟨k, hk, rfl, rfl, hA, hD, hW⟩ := hrel
      obtain ⟨ub0, ub1⟩ := nat_div_bounds u k hu0 hu1
      by_cases hlt : k < 61
      · have cD := hD.cell hlt
        have fD := hD.frozen k
        go_wp2
        go_roundw
        case rel =>
          refine ⟨k + 1, by omega, by go_num, congrArg (Value.int .i64) (div_succ u k).symm, hA.setOther (by simp) _, ?_, hW.setCell (by simp) _⟩
          refine (hD.set k _).congr (fun i hi => ?_)
          have e := HHB.out k hlt
          rw [← HU.out] at e
          exact mix_step k (bit v) (fun _ => 0) (u / 2 ^ k % 2) e i
        case measure => simp [intOf]; omega
      · go_wp2_with (first | (refine load61 rfl (.tmp 3) rfl _ rfl _ hD ?_) | (refine store61 rfl (.tmp 2) (.tmp 31) rfl _ rfl _ rfl _ hA ?_))
        refine ret61 Try.results66 rfl rfl (hA.setRow _) ⟨?_, below_setRow' hW (by omega) _⟩
        rw [arr_congr (f := mix k (bit v) (fun _ => 0)) (g := bit v)]
        intro i hi
        have : k = 61 := by omega
        subst this; exact mix_all _ _ i hi
end Go.Proofs.Yteepkghjphmegab
