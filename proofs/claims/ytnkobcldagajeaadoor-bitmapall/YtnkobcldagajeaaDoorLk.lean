/- scripts that are not played -/
import Derived.Test.YtnkobcldagajeaaDoorLj
namespace Go.Proofs.YtnkobcldagajeaaDoor
open Go.RowKit
set_option linter.unusedVariables false
set_option linter.unusedSimpArgs false

set_option maxRecDepth 100000 in
set_option maxHeartbeats 1000000 in
theorem plays_mid (n k u v : Int) (sv : Value) (w : World) (hT : Tab w) (h : (20000 < n ∧ n ≤ 262144) ∨ (20000 < k ∧ k ≤ 262144)) :
    Calls Tryd.prog 12 #[.int .i64 n, .int .i64 k, sv, .int .i64 u, .int .i64 v] w fun e w' => e = .returned (.bool true) ∧ Out 0 0 w w' := by
  have HA := hid_mk (alive_any w hT)
  have HA2 := hid_mk (fun w hT => alive_any w hT)
  have HT := hid_mk hT
  clear hT
  by_cases hn : 20000 < n ∧ n ≤ 262144
  · obtain ⟨g1, g2⟩ := hn
    clear h
    go_enter Tryd.func12, Tryd.ntmps12
    go_wp2_with fail
    refine HA.out.mono ?_
    rintro e w1 ⟨rfl, ho⟩
    have HO := hid_mk ho
    clear ho
    go_wp2_with fail
    refine (HA2.out w1 (HT.out.kept HO.out (.inr (Nat.le_refl _)))).mono ?_
    rintro e w2 ⟨rfl, ho2⟩
    have HO2 := hid_mk ho2
    clear ho2
    go_wp2
    go_ret
    exact ⟨rfl, HO.out.trans HO2.out⟩
  · have hk : 20000 < k ∧ k ≤ 262144 := by omega
    obtain ⟨g1, g2⟩ := hk
    by_cases hn1 : n ≤ 20000
    · clear h hn
      go_enter Tryd.func12, Tryd.ntmps12
      go_wp2_with fail
      refine HA.out.mono ?_
      rintro e w1 ⟨rfl, ho⟩
      have HO := hid_mk ho
      clear ho
      go_wp2_with fail
      refine (HA2.out w1 (HT.out.kept HO.out (.inr (Nat.le_refl _)))).mono ?_
      rintro e w2 ⟨rfl, ho2⟩
      have HO2 := hid_mk ho2
      clear ho2
      go_wp2
      go_ret
      exact ⟨rfl, HO.out.trans HO2.out⟩
    · have hn2 : 262144 < n := by omega
      have hn3 : 20000 < n := by omega
      clear h hn hn1
      go_enter Tryd.func12, Tryd.ntmps12
      go_wp2_with fail
      refine HA.out.mono ?_
      rintro e w1 ⟨rfl, ho⟩
      have HO := hid_mk ho
      clear ho
      go_wp2_with fail
      refine (HA2.out w1 (HT.out.kept HO.out (.inr (Nat.le_refl _)))).mono ?_
      rintro e w2 ⟨rfl, ho2⟩
      have HO2 := hid_mk ho2
      clear ho2
      go_wp2
      go_ret
      exact ⟨rfl, HO.out.trans HO2.out⟩
/-- made, in one word -/
theorem made_int (n : Int) (w : World) (hT : Tab w) (h : n < 0 ∨ 262144 < n ∨ (0 ≤ n ∧ n ≤ 20000)) :
    Calls Tryd.prog 10 #[.int .i64 n] w fun e w' => ∃ po : Option Nat, e = .returned (.tuple #[.pointer (po.map fun p => ⟨p, 0, none⟩), .bool true]) ∧ (∀ p, po = some p → PairAt w' w.heap.size w'.heap.size p n.toNat (fun _ => false)) ∧ ((n < 0 ∨ 262144 < n) → po = none) ∧ (0 ≤ n → n ≤ 20000 → po ≠ none) ∧ Out 0 0 w w' := by
  by_cases hb : n < 0 ∨ 262144 < n
  · exact (made_no n w hb).mono fun e w' ⟨h1, h2⟩ => ⟨none, h1, fun p hp => (by cases hp), fun _ => rfl, fun _ _ => (by omega), by rw [h2]; exact Out.refl _ _ _⟩
  · obtain ⟨m, rfl⟩ := Int.eq_ofNat_of_zero_le (show 0 ≤ n by omega)
    exact (made_yes m w (by omega) hT).mono fun e w' ⟨p, h1, h2, h3⟩ => ⟨some p, h1, fun p' hp => (by cases hp; exact h2), fun h => absurd h hb, fun _ _ h => (by cases h), h3⟩
set_option maxRecDepth 100000 in
set_option maxHeartbeats 2000000 in
theorem plays_nil (n k u v : Int) (sv : Value) (w : World) (hT : Tab w) (h : n < 0 ∨ 262144 < n ∨ (0 ≤ n ∧ n ≤ 20000)) (h' : k < 0 ∨ 262144 < k ∨ (0 ≤ k ∧ k ≤ 20000)) (hb : n < 0 ∨ 262144 < n ∨ k < 0 ∨ 262144 < k) :
    Calls Tryd.prog 12 #[.int .i64 n, .int .i64 k, sv, .int .i64 u, .int .i64 v] w fun e w' => e = .returned (.bool true) ∧ Out 0 0 w w' := by
  have HA := hid_mk (alive_any w hT)
  have HM := hid_mk (fun w hT => made_int n w hT h)
  have HM' := hid_mk (fun w hT => made_int k w hT h')
  have HT := hid_mk hT
  have HB := hid_mk hb
  clear hT hb
  by_cases a1 : n ≤ 20000
  · by_cases a2 : k ≤ 20000
    · clear h h'
      go_enter Tryd.func12, Tryd.ntmps12
      go_wp2_with fail
      refine HA.out.mono ?_
      rintro e w1 ⟨rfl, ho⟩
      have HO := hid_mk ho
      clear ho
      go_wp2_with fail
      refine (HM.out w1 (HT.out.kept HO.out (.inr (Nat.le_refl _)))).mono ?_
      rintro e w2 ⟨po, rfl, hp1, hp2, hp3, ho2⟩
      have HO2 := hid_mk (HO.out.trans ho2)
      have HP1 := hid_mk hp2
      clear ho2 hp1 hp2 hp3
      go_wp2_with fail
      refine (HM'.out w2 (HT.out.kept HO2.out (.inr (Nat.le_refl _)))).mono ?_
      rintro e w3 ⟨po', rfl, hp1, hp2, hp3, ho3⟩
      have HO3 := hid_mk (HO2.out.trans ho3)
      have HP2 := hid_mk hp2
      clear ho3 hp1 hp2 hp3
      cases po with
      | none =>
        go_wp2
        go_ret
        exact ⟨rfl, HO3.out⟩
      | some p1 =>
        cases po' with
        | none =>
          go_wp2
          go_ret
          exact ⟨rfl, HO3.out⟩
        | some p2 =>
          exfalso
          rcases HB.out with q | q | q | q
          · cases HP1.out (.inl q)
          · cases HP1.out (.inr q)
          · cases HP2.out (.inl q)
          · cases HP2.out (.inr q)
    · have a3 : 20000 < k := by omega
      have a4 : 262144 < k := by omega
      clear h h' a2
      go_enter Tryd.func12, Tryd.ntmps12
      go_wp2_with fail
      refine HA.out.mono ?_
      rintro e w1 ⟨rfl, ho⟩
      have HO := hid_mk ho
      clear ho
      go_wp2_with fail
      refine (HM.out w1 (HT.out.kept HO.out (.inr (Nat.le_refl _)))).mono ?_
      rintro e w2 ⟨po, rfl, hp1, hp2, hp3, ho2⟩
      have HO2 := hid_mk (HO.out.trans ho2)
      have HP1 := hid_mk hp2
      clear ho2 hp1 hp2 hp3
      go_wp2_with fail
      refine (HM'.out w2 (HT.out.kept HO2.out (.inr (Nat.le_refl _)))).mono ?_
      rintro e w3 ⟨po', rfl, hp1, hp2, hp3, ho3⟩
      have HO3 := hid_mk (HO2.out.trans ho3)
      have HP2 := hid_mk hp2
      clear ho3 hp1 hp2 hp3
      cases po with
      | none =>
        go_wp2
        go_ret
        exact ⟨rfl, HO3.out⟩
      | some p1 =>
        cases po' with
        | none =>
          go_wp2
          go_ret
          exact ⟨rfl, HO3.out⟩
        | some p2 =>
          exfalso
          rcases HB.out with q | q | q | q
          · cases HP1.out (.inl q)
          · cases HP1.out (.inr q)
          · cases HP2.out (.inl q)
          · cases HP2.out (.inr q)
  · have b3 : 20000 < n := by omega
    have b4 : 262144 < n := by omega
    by_cases a2 : k ≤ 20000
    · clear h h' a1
      go_enter Tryd.func12, Tryd.ntmps12
      go_wp2_with fail
      refine HA.out.mono ?_
      rintro e w1 ⟨rfl, ho⟩
      have HO := hid_mk ho
      clear ho
      go_wp2_with fail
      refine (HM.out w1 (HT.out.kept HO.out (.inr (Nat.le_refl _)))).mono ?_
      rintro e w2 ⟨po, rfl, hp1, hp2, hp3, ho2⟩
      have HO2 := hid_mk (HO.out.trans ho2)
      have HP1 := hid_mk hp2
      clear ho2 hp1 hp2 hp3
      go_wp2_with fail
      refine (HM'.out w2 (HT.out.kept HO2.out (.inr (Nat.le_refl _)))).mono ?_
      rintro e w3 ⟨po', rfl, hp1, hp2, hp3, ho3⟩
      have HO3 := hid_mk (HO2.out.trans ho3)
      have HP2 := hid_mk hp2
      clear ho3 hp1 hp2 hp3
      cases po with
      | none =>
        go_wp2
        go_ret
        exact ⟨rfl, HO3.out⟩
      | some p1 =>
        cases po' with
        | none =>
          go_wp2
          go_ret
          exact ⟨rfl, HO3.out⟩
        | some p2 =>
          exfalso
          rcases HB.out with q | q | q | q
          · cases HP1.out (.inl q)
          · cases HP1.out (.inr q)
          · cases HP2.out (.inl q)
          · cases HP2.out (.inr q)
    · have a3 : 20000 < k := by omega
      have a4 : 262144 < k := by omega
      clear h h' a2 a1
      go_enter Tryd.func12, Tryd.ntmps12
      go_wp2_with fail
      refine HA.out.mono ?_
      rintro e w1 ⟨rfl, ho⟩
      have HO := hid_mk ho
      clear ho
      go_wp2_with fail
      refine (HM.out w1 (HT.out.kept HO.out (.inr (Nat.le_refl _)))).mono ?_
      rintro e w2 ⟨po, rfl, hp1, hp2, hp3, ho2⟩
      have HO2 := hid_mk (HO.out.trans ho2)
      have HP1 := hid_mk hp2
      clear ho2 hp1 hp2 hp3
      go_wp2_with fail
      refine (HM'.out w2 (HT.out.kept HO2.out (.inr (Nat.le_refl _)))).mono ?_
      rintro e w3 ⟨po', rfl, hp1, hp2, hp3, ho3⟩
      have HO3 := hid_mk (HO2.out.trans ho3)
      have HP2 := hid_mk hp2
      clear ho3 hp1 hp2 hp3
      cases po with
      | none =>
        go_wp2
        go_ret
        exact ⟨rfl, HO3.out⟩
      | some p1 =>
        cases po' with
        | none =>
          go_wp2
          go_ret
          exact ⟨rfl, HO3.out⟩
        | some p2 =>
          exfalso
          rcases HB.out with q | q | q | q
          · cases HP1.out (.inl q)
          · cases HP1.out (.inr q)
          · cases HP2.out (.inl q)
          · cases HP2.out (.inr q)
end Go.Proofs.YtnkobcldagajeaaDoor
