/- package show: slices.Backward of any list -/
import Derived.Test.YtmfnkhonghemeaaDoorIih
namespace Go.Proofs.YtmfnkhonghemeaaDoor
open Go.RowKit
attribute [local go_sem] Oper.semAt_some
set_option linter.unusedVariables false
set_option linter.unusedSimpArgs false

theorem back_all (a : Option Addr) (m c : Nat) (w : World) :
    Calls Tryd.prog 17 #[.slice a m c] w fun e w' => e = .returned (.func (.func 27) #[] #[.pointer (some ⟨w.heap.size, 0, none⟩)]) ∧ w' = w.alloc (.cells #[.slice a m c] 24) := by
  have h1 := hmf
  go_enter Tryd.func17, Tryd.ntmps17
  go_wp2
  go_ret
  exact ⟨rfl, rfl⟩
set_option maxRecDepth 100000 in
set_option maxHeartbeats 2000000 in
/-- the rounds of a loop over a list from behind: I j: those below j are still to come -/
theorem back1_all {g m c l : Nat} {a : Option Addr} {vs : List (Int × Int)} (hlen : vs.length = m) (hmm : m ≤ 1000) (I : Nat → World → Prop)
    (hm : ∀ j w, I j w → Bl w g #[.slice a m c] 24 ∧ (0 < m → ∃ gv, a = some ⟨gv, 0, none⟩ ∧ Vals w gv vs))
    (hy : ∀ (j : Nat) w k x, I (j + 1) w → vs[j]? = some (k, x) → YieldAt Fence.wide 0 Tryd.prog l #[.int .i64 (j : Int), .agg #[.int .i64 k, .int .i64 x]] w fun e w' => e = .returned (.bool true) ∧ I j w')
    {w : World} (h0 : I m w) :
    Calls Tryd.prog 27 #[.func (.yield l) #[] #[], .pointer (some ⟨g, 0, none⟩)] w fun e w' => (∃ v, e = .returned v) ∧ I 0 w' := by
  have c0 := (hm m w h0).1.cell (i := 0) rfl
  have HM := hid_mk hm
  have HY := hid_mk hy
  have HI := hid_mk h0
  have HL := hid_mk hlen
  have b1 : (m : Int) ≤ 1000 := by omega
  have b2 : (0 : Int) ≤ (m : Int) := by omega
  clear hm hy h0 hlen
  refine (callsIn_wide (n := 0)).1 ?_
  refine callsIn_of_wp Tryd.func27 rfl trivial ?_ rfl
  simp only [Tryd.ntmps27, List.size_toArray, List.length_cons, List.length_nil, Nat.reduceAdd, Nat.reduceSub, Array.replicate_succ, Array.replicate_zero, List.push_toArray, List.append_toArray, List.nil_append, List.cons_append]
  gi_wp2_with fail
  gi_loopw [3] (fun v wr => ∃ j : Nat, v = .int .i64 ((j : Int) - 1) ∧ j ≤ m ∧ I j wr) (fun v _ => (intOf v + 1).toNat)
  case atStart => exact ⟨m, rfl, Nat.le_refl _, HI.out⟩
  case round =>
    obtain ⟨j, rfl, hj, hI⟩ := hrel
    cases j with
    | zero =>
      have HJ := hid_mk hI
      clear hI
      gi_wp2
      exact bodyPost_end (results_none Tryd.results27 _ _ _) rfl ⟨⟨_, rfl⟩, HJ.out⟩
    | succ j =>
      rw [show ((j + 1 : Nat) : Int) - 1 = (j : Int) from by omega]
      have hjl : j < vs.length := by have := HL.out; omega
      obtain ⟨⟨k, x⟩, hkx⟩ : ∃ q, vs[j]? = some q := ⟨_, List.getElem?_eq_getElem hjl⟩
      obtain ⟨fn, tmps, assign, body, hy, hR⟩ := HY.out j wr k x hI hkx
      have HR := hid_mk (roundIn_wide (m := 0) hR)
      obtain ⟨gv, rfl, hv⟩ := (HM.out _ _ hI).2 (by omega)
      have d0 := (HM.out _ _ hI).1.cell (i := 0) rfl
      obtain ⟨d1, d2⟩ := hv j k x hkx
      have e0 : (0 : Int) ≤ (j : Int) := by omega
      have e1 : (j : Int) < (m : Int) := by omega
      have HJ := hid_mk hj
      clear hI hR hkx hj hjl hv
      gi_wp2
      refine ⟨rfl, HR.out.mono ?_⟩
      clear HR hy
      rintro e w2 ⟨rfl, hI2⟩
      have HI2 := hid_mk hI2
      clear hI2
      gi_wp2
      go_roundw
      case rel => exact ⟨j, rfl, by have := HJ.out; omega, HI2.out⟩
      case measure => simp [intOf]
end Go.Proofs.YtmfnkhonghemeaaDoor
