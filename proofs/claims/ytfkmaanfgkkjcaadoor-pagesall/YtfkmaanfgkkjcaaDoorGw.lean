/- scripts that are not played -/
import Derived.Test.YtfkmaanfgkkjcaaDoorGv
namespace Go.Proofs.YtfkmaanfgkkjcaaDoor
open Go.RowKit
set_option linter.unusedVariables false
set_option linter.unusedSimpArgs false

theorem made_opt {w : World} (hT : Tab w) (n : Int) :
    Calls Tryd.prog 9 #[.int .i64 n] w fun e w' => ∃ po : Option Nat, e = .returned (.tuple #[.pointer (po.map fun p => ⟨p, 0, none⟩), .bool true]) ∧ (newB n = false → po = none) ∧ Out 0 0 w w' := by
  cases h : newB n with
  | false => exact (made_no n h).mono fun e w' ⟨h1, h2⟩ => ⟨none, h1, fun _ => rfl, by rw [h2]; exact Out.refl _ _ _⟩
  | true =>
    unfold newB at h
    simp at h
    obtain ⟨k, rfl⟩ := Int.eq_ofNat_of_zero_le (show 0 ≤ n by omega)
    exact (made_yes (B := 0) hT (Nat.zero_le _) k (by omega) (by omega)).mono fun e w' ⟨d, h1, _, _, _, h2⟩ => ⟨some d.b, h1, fun h => (by cases h), h2⟩
set_option maxRecDepth 100000 in
set_option maxHeartbeats 2000000 in
theorem plays_nil (n k u v : Int) (sv : Value) {w : World} (hT : Tab w) (hb : newB n = false ∨ newB k = false) :
    Calls Tryd.prog 13 #[.int .i64 n, .int .i64 k, sv, .int .i64 u, .int .i64 v] w fun e w' => e = .returned (.bool true) ∧ Below w.heap.size w w' := by
  have HM := hid_mk (made_opt hT n)
  have HT := hid_mk hT
  have HB := hid_mk hb
  clear hT hb
  go_enter Tryd.func13, Tryd.ntmps13
  go_wp2_with fail
  refine HM.out.mono ?_
  rintro e w1 ⟨po, rfl, hp, ho⟩
  have HO1 := hid_mk ho
  have HP1 := hid_mk hp
  have HM' := hid_mk (made_opt (HT.out.quiet ho) k)
  clear ho hp HM
  go_wp2_with fail
  refine HM'.out.mono ?_
  rintro e w2 ⟨po', rfl, hp, ho⟩
  have HO2 := hid_mk (HO1.out.trans ho)
  have HP2 := hid_mk hp
  have HA := hid_mk (alive_any (HT.out.quiet HO2.out))
  clear ho hp HM' HO1
  go_wp2_with fail
  refine HA.out.mono ?_
  rintro e w3 ⟨rfl, ho⟩
  have HO3 := hid_mk (HO2.out.trans ho)
  clear ho HA HO2
  cases po with
  | none =>
    go_wp2
    go_ret
    exact ⟨rfl, HO3.out.all⟩
  | some p1 =>
    cases po' with
    | none =>
      go_wp2
      go_ret
      exact ⟨rfl, HO3.out.all⟩
    | some p2 =>
      exfalso
      rcases HB.out with q | q
      · cases HP1.out q
      · cases HP2.out q
end Go.Proofs.YtfkmaanfgkkjcaaDoor
