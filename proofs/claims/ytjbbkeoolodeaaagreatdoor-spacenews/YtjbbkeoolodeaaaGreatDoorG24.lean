import Derived.Test.YtjbbkeoolodeaaaGreatDoorG23
namespace Go.Proofs.YtjbbkeoolodeaaaGreatDoor
open Go.RowKit
set_option linter.unusedVariables false
set_option linter.unusedSimpArgs false

/-- a slice of n elements of k ints -/
def ElAt (w : World) (v : Value) (n k : Nat) (f : Nat → Nat → Int) : Prop := ∃ o c, v = .slice o n c ∧ (0 < n → ∃ g, o = some ⟨g, 0, none⟩ ∧ ∀ j i, j < n → i < k → w.cell? ⟨g, j * k + i, none⟩ = some (.int .i64 (f j i)))
theorem ElAt.quiet {w w' : World} {v : Value} {n k : Nat} {f : Nat → Nat → Int} (h : ElAt w v n k f) (o : Out 0 0 w w') : ElAt w' v n k f := by
  obtain ⟨a, c, e, h⟩ := h
  refine ⟨a, c, e, fun hn => ?_⟩
  obtain ⟨g, hg, hc⟩ := h hn
  exact ⟨g, hg, fun j i hj hi => o.cell (hc j i hj hi) (.inr (Nat.zero_le _))⟩
set_option maxRecDepth 100000 in
set_option maxHeartbeats 4000000 in
theorem sameInts_any {w : World} {n : Nat} {v1 v2 : Value} {f : Nat → Nat → Int} (h1 : ElAt w v1 n 1 f) (h2 : ElAt w v2 n 1 f) (hn : (n : Int) ≤ 100000) : Calls Tryz.prog 77 #[v1, v2] w fun e w' => e = .returned (.bool true) ∧ Out 0 0 w w' := by
  obtain ⟨o1, c1, rfl, h1⟩ := h1
  obtain ⟨o2, c2, rfl, h2⟩ := h2
  have H1 := hid_mk h1
  have H2 := hid_mk h2
  have n0 : (0 : Int) ≤ (n : Int) := by omega
  have nn : ((n : Int) != (n : Int)) = false := by simp
  obtain ⟨nb, hnb⟩ : ∃ q : Int, (n : Int) ≤ q ∧ q ≤ 4611686018427387904 := ⟨n, by omega, by omega⟩
  clear h1 h2 hn
  go_enter Tryz.func77, Tryz.ntmps77
  go_wp2_with fail
  go_loopw [5] (fun u wr => ∃ j : Nat, u = .int .i64 (j : Int) ∧ j ≤ n ∧ Out 0 0 w wr) (fun u _ => n - (intOf u).toNat)
  case atStart => exact ⟨0, rfl, Nat.zero_le _, Out.refl _ _ _⟩
  case round =>
    obtain ⟨j, rfl, j1, ro⟩ := hrel
    have j0 : (0 : Int) ≤ (j : Int) := by omega
    have j4 : (j : Int) ≤ (n : Int) := by omega
    by_cases hj : j < n
    · have j2 : (j : Int) < (n : Int) := by omega
      obtain ⟨g1, hg1, hc1⟩ := H1.out (by omega)
      obtain ⟨g2, hg2, hc2⟩ := H2.out (by omega)
      subst hg1 hg2
      have p0 := ro.cell (hc1 j 0 hj (by omega)) (.inr (Nat.zero_le _))
      rw [show j * 1 + 0 = j from by omega] at p0
      have q0 := ro.cell (hc2 j 0 hj (by omega)) (.inr (Nat.zero_le _))
      rw [show j * 1 + 0 = j from by omega] at q0
      generalize f j 0 = x0 at p0 q0
      have z0 : (x0 == x0) = true := by simp
      have y0 : (x0 != x0) = false := by simp
      have HO := hid_mk ro
      clear ro hc1 hc2
      go_wp2_with fail
      refine wp_region_held_drew (S := fun w' => w'.cell? ⟨g1, j, none⟩ = some (.int .i64 x0) ∧ w'.cell? ⟨g2, j, none⟩ = some (.int .i64 x0)) (by kernel_rfl) ?hS11 (fun hHeld => ?rest11)
      case hS11 => exact ⟨p0, q0⟩
      refine wpAnyH_take (i := 0) (v := ?v12) rfl (by kernel_rfl) (by kernel_rfl) (by kernel_rfl) (fun _ _ _ h => h) (Or.inl ⟨by rfl, ?hy12⟩) (by assumption) ?rest12
      case hy12 => (intro w hSw; (try dsimp only at hSw); simp only [List.getElem_toArray, List.getElem_cons_zero, List.getElem_cons_succ]; go_simp; (try with_reducible rfl))
      (try simp only [Act.put, List.getElem_toArray, List.getElem_cons_zero, List.getElem_cons_succ, List.setIfInBounds_toArray, List.set_cons_zero, List.set_cons_succ])
      refine wpAnyH_take (i := 1) (v := ?v13) rfl (by kernel_rfl) (by kernel_rfl) (by kernel_rfl) (fun _ _ _ h => h) (Or.inl ⟨by rfl, ?hy13⟩) (by assumption) ?rest13
      case hy13 => (intro w hSw; (try dsimp only at hSw); simp only [List.getElem_toArray, List.getElem_cons_zero, List.getElem_cons_succ]; go_simp; (try with_reducible rfl))
      (try simp only [Act.put, List.getElem_toArray, List.getElem_cons_zero, List.getElem_cons_succ, List.setIfInBounds_toArray, List.set_cons_zero, List.set_cons_succ])
      refine wpAnyH_take (i := 2) (v := ?v14) rfl (by kernel_rfl) (by kernel_rfl) (by kernel_rfl) (fun _ _ _ h => h) (Or.inl ⟨by rfl, ?hy14⟩) (by assumption) ?rest14
      case hy14 => (intro w hSw; (try dsimp only at hSw); simp only [List.getElem_toArray, List.getElem_cons_zero, List.getElem_cons_succ]; go_simp; (try with_reducible rfl))
      (try simp only [Act.put, List.getElem_toArray, List.getElem_cons_zero, List.getElem_cons_succ, List.setIfInBounds_toArray, List.set_cons_zero, List.set_cons_succ])
      refine wpAnyH_take (i := 3) (v := ?v15) rfl (by kernel_rfl) (by kernel_rfl) (by kernel_rfl) (fun _ _ _ h => h) (Or.inl ⟨by rfl, ?hy15⟩) (by assumption) ?rest15
      case hy15 => (intro w hSw; (try dsimp only at hSw); simp only [List.getElem_toArray, List.getElem_cons_zero, List.getElem_cons_succ]; go_simp; (try with_reducible rfl))
      (try simp only [Act.put, List.getElem_toArray, List.getElem_cons_zero, List.getElem_cons_succ, List.setIfInBounds_toArray, List.set_cons_zero, List.set_cons_succ])
      refine wpAnyH_take (i := 4) (v := ?v16) rfl (by kernel_rfl) (by kernel_rfl) (by kernel_rfl) (fun _ _ _ h => h) (Or.inl ⟨by rfl, ?hy16⟩) (by assumption) ?rest16
      case hy16 => (intro w hSw; (try dsimp only at hSw); simp only [List.getElem_toArray, List.getElem_cons_zero, List.getElem_cons_succ]; go_simp; (try with_reducible rfl))
      (try simp only [Act.put, List.getElem_toArray, List.getElem_cons_zero, List.getElem_cons_succ, List.setIfInBounds_toArray, List.set_cons_zero, List.set_cons_succ])
      refine wpAnyH_take (i := 5) (v := ?v17) rfl (by kernel_rfl) (by kernel_rfl) (by kernel_rfl) (fun _ _ _ h => h) (Or.inl ⟨by rfl, ?hy17⟩) (by assumption) ?rest17
      case hy17 => (intro w hSw; (try dsimp only at hSw); simp only [List.getElem_toArray, List.getElem_cons_zero, List.getElem_cons_succ]; go_simp; (try with_reducible rfl))
      (try simp only [Act.put, List.getElem_toArray, List.getElem_cons_zero, List.getElem_cons_succ, List.setIfInBounds_toArray, List.set_cons_zero, List.set_cons_succ])
      refine wpAnyH_take (i := 6) (v := ?v18) rfl (by kernel_rfl) (by kernel_rfl) (by kernel_rfl) (fun _ _ _ h => h) (Or.inl ⟨by rfl, ?hy18⟩) (by assumption) ?rest18
      case hy18 => (intro w hSw; (try dsimp only at hSw); simp only [List.getElem_toArray, List.getElem_cons_zero, List.getElem_cons_succ]; go_simp; (try with_reducible rfl))
      (try simp only [Act.put, List.getElem_toArray, List.getElem_cons_zero, List.getElem_cons_succ, List.setIfInBounds_toArray, List.set_cons_zero, List.set_cons_succ])
      refine wpAnyH_take (i := 7) (v := ?v19) rfl (by kernel_rfl) (by kernel_rfl) (by kernel_rfl) (fun _ _ _ h => h) (Or.inl ⟨by rfl, ?hy19⟩) (by assumption) ?rest19
      case hy19 => (intro w hSw; (try dsimp only at hSw); simp only [List.getElem_toArray, List.getElem_cons_zero, List.getElem_cons_succ]; go_simp; (try with_reducible rfl))
      (try simp only [Act.put, List.getElem_toArray, List.getElem_cons_zero, List.getElem_cons_succ, List.setIfInBounds_toArray, List.set_cons_zero, List.set_cons_succ])
      refine wpAnyH_take (i := 8) (v := ?v20) rfl (by kernel_rfl) (by kernel_rfl) (by kernel_rfl) (fun _ _ _ h => h) (Or.inl ⟨by rfl, ?hy20⟩) (by assumption) ?rest20
      case hy20 => (intro w hSw; (try dsimp only at hSw); simp only [List.getElem_toArray, List.getElem_cons_zero, List.getElem_cons_succ]; go_simp; (try with_reducible rfl))
      (try simp only [Act.put, List.getElem_toArray, List.getElem_cons_zero, List.getElem_cons_succ, List.setIfInBounds_toArray, List.set_cons_zero, List.set_cons_succ])
      refine wpAnyH_done (by kernel_rfl) ?_ _
      clear hHeld
      go_wp2
      go_roundw
      case rel => exact ⟨j + 1, by go_num, by omega, HO.out.drew⟩
      case measure => simp [intOf]; omega
    · have e : n = j := by omega
      subst e
      have e2 : decide ((n : Int) < (n : Int)) = false := by simp
      go_wp2
      go_ret
      exact ⟨rfl, ro⟩
set_option maxRecDepth 100000 in
set_option maxHeartbeats 4000000 in
theorem samePages_any {w : World} {n : Nat} {v1 v2 : Value} {f : Nat → Nat → Int} (h1 : ElAt w v1 n 3 f) (h2 : ElAt w v2 n 3 f) (hn : (n : Int) ≤ 100000) : Calls Tryz.prog 78 #[v1, v2] w fun e w' => e = .returned (.bool true) ∧ Out 0 0 w w' := by
  obtain ⟨o1, c1, rfl, h1⟩ := h1
  obtain ⟨o2, c2, rfl, h2⟩ := h2
  have H1 := hid_mk h1
  have H2 := hid_mk h2
  have n0 : (0 : Int) ≤ (n : Int) := by omega
  have nn : ((n : Int) != (n : Int)) = false := by simp
  obtain ⟨nb, hnb⟩ : ∃ q : Int, (n : Int) ≤ q ∧ q ≤ 4611686018427387904 := ⟨n, by omega, by omega⟩
  clear h1 h2 hn
  go_enter Tryz.func78, Tryz.ntmps78
  go_wp2_with fail
  go_loopw [5] (fun u wr => ∃ j : Nat, u = .int .i64 (j : Int) ∧ j ≤ n ∧ Out 0 0 w wr) (fun u _ => n - (intOf u).toNat)
  case atStart => exact ⟨0, rfl, Nat.zero_le _, Out.refl _ _ _⟩
  case round =>
    obtain ⟨j, rfl, j1, ro⟩ := hrel
    have j0 : (0 : Int) ≤ (j : Int) := by omega
    have j4 : (j : Int) ≤ (n : Int) := by omega
    by_cases hj : j < n
    · have j2 : (j : Int) < (n : Int) := by omega
      obtain ⟨g1, hg1, hc1⟩ := H1.out (by omega)
      obtain ⟨g2, hg2, hc2⟩ := H2.out (by omega)
      subst hg1 hg2
      have p0 := ro.cell (hc1 j 0 hj (by omega)) (.inr (Nat.zero_le _))
      rw [show j * 3 + 0 = j * 3 from by omega] at p0
      have q0 := ro.cell (hc2 j 0 hj (by omega)) (.inr (Nat.zero_le _))
      rw [show j * 3 + 0 = j * 3 from by omega] at q0
      have p1 := ro.cell (hc1 j 1 hj (by omega)) (.inr (Nat.zero_le _))
      have q1 := ro.cell (hc2 j 1 hj (by omega)) (.inr (Nat.zero_le _))
      have p2 := ro.cell (hc1 j 2 hj (by omega)) (.inr (Nat.zero_le _))
      have q2 := ro.cell (hc2 j 2 hj (by omega)) (.inr (Nat.zero_le _))
      generalize f j 0 = x0 at p0 q0
      generalize f j 1 = x1 at p1 q1
      generalize f j 2 = x2 at p2 q2
      have z0 : (x0 == x0) = true := by simp
      have z1 : (x1 == x1) = true := by simp
      have z2 : (x2 == x2) = true := by simp
      have y0 : (x0 != x0) = false := by simp
      have y1 : (x1 != x1) = false := by simp
      have y2 : (x2 != x2) = false := by simp
      have HO := hid_mk ro
      clear ro hc1 hc2
      go_wp2_with fail
      refine wp_region_held_drew (S := fun w' => w'.cell? ⟨g1, j * 3, none⟩ = some (.int .i64 x0) ∧ w'.cell? ⟨g1, j * 3 + 1, none⟩ = some (.int .i64 x1) ∧ w'.cell? ⟨g1, j * 3 + 2, none⟩ = some (.int .i64 x2) ∧ w'.cell? ⟨g2, j * 3, none⟩ = some (.int .i64 x0) ∧ w'.cell? ⟨g2, j * 3 + 1, none⟩ = some (.int .i64 x1) ∧ w'.cell? ⟨g2, j * 3 + 2, none⟩ = some (.int .i64 x2)) (by kernel_rfl) ?hS31 (fun hHeld => ?rest31)
      case hS31 => exact ⟨p0, p1, p2, q0, q1, q2⟩
      refine wpAnyH_take (i := 0) (v := ?v32) rfl (by kernel_rfl) (by kernel_rfl) (by kernel_rfl) (fun _ _ _ h => h) (Or.inl ⟨by rfl, ?hy32⟩) (by assumption) ?rest32
      case hy32 => (intro w hSw; (try dsimp only at hSw); simp only [List.getElem_toArray, List.getElem_cons_zero, List.getElem_cons_succ]; go_simp; (try with_reducible rfl))
      (try simp only [Act.put, List.getElem_toArray, List.getElem_cons_zero, List.getElem_cons_succ, List.setIfInBounds_toArray, List.set_cons_zero, List.set_cons_succ])
      refine wpAnyH_take (i := 1) (v := ?v33) rfl (by kernel_rfl) (by kernel_rfl) (by kernel_rfl) (fun _ _ _ h => h) (Or.inl ⟨by rfl, ?hy33⟩) (by assumption) ?rest33
      case hy33 => (intro w hSw; (try dsimp only at hSw); simp only [List.getElem_toArray, List.getElem_cons_zero, List.getElem_cons_succ]; go_simp; (try with_reducible rfl))
      (try simp only [Act.put, List.getElem_toArray, List.getElem_cons_zero, List.getElem_cons_succ, List.setIfInBounds_toArray, List.set_cons_zero, List.set_cons_succ])
      refine wpAnyH_take (i := 2) (v := ?v34) rfl (by kernel_rfl) (by kernel_rfl) (by kernel_rfl) (fun _ _ _ h => h) (Or.inl ⟨by rfl, ?hy34⟩) (by assumption) ?rest34
      case hy34 => (intro w hSw; (try dsimp only at hSw); simp only [List.getElem_toArray, List.getElem_cons_zero, List.getElem_cons_succ]; go_simp; (try with_reducible rfl))
      (try simp only [Act.put, List.getElem_toArray, List.getElem_cons_zero, List.getElem_cons_succ, List.setIfInBounds_toArray, List.set_cons_zero, List.set_cons_succ])
      refine wpAnyH_take (i := 3) (v := ?v35) rfl (by kernel_rfl) (by kernel_rfl) (by kernel_rfl) (fun _ _ _ h => h) (Or.inl ⟨by rfl, ?hy35⟩) (by assumption) ?rest35
      case hy35 => (intro w hSw; (try dsimp only at hSw); simp only [List.getElem_toArray, List.getElem_cons_zero, List.getElem_cons_succ]; go_simp; (try with_reducible rfl))
      (try simp only [Act.put, List.getElem_toArray, List.getElem_cons_zero, List.getElem_cons_succ, List.setIfInBounds_toArray, List.set_cons_zero, List.set_cons_succ])
      refine wpAnyH_take (i := 4) (v := ?v36) rfl (by kernel_rfl) (by kernel_rfl) (by kernel_rfl) (fun _ _ _ h => h) (Or.inl ⟨by rfl, ?hy36⟩) (by assumption) ?rest36
      case hy36 => (intro w hSw; (try dsimp only at hSw); simp only [List.getElem_toArray, List.getElem_cons_zero, List.getElem_cons_succ]; go_simp; (try with_reducible rfl))
      (try simp only [Act.put, List.getElem_toArray, List.getElem_cons_zero, List.getElem_cons_succ, List.setIfInBounds_toArray, List.set_cons_zero, List.set_cons_succ])
      refine wpAnyH_take (i := 5) (v := ?v37) rfl (by kernel_rfl) (by kernel_rfl) (by kernel_rfl) (fun _ _ _ h => h) (Or.inl ⟨by rfl, ?hy37⟩) (by assumption) ?rest37
      case hy37 => (intro w hSw; (try dsimp only at hSw); simp only [List.getElem_toArray, List.getElem_cons_zero, List.getElem_cons_succ]; go_simp; (try with_reducible rfl))
      (try simp only [Act.put, List.getElem_toArray, List.getElem_cons_zero, List.getElem_cons_succ, List.setIfInBounds_toArray, List.set_cons_zero, List.set_cons_succ])
      refine wpAnyH_take (i := 6) (v := ?v38) rfl (by kernel_rfl) (by kernel_rfl) (by kernel_rfl) (fun _ _ _ h => h) (Or.inl ⟨by rfl, ?hy38⟩) (by assumption) ?rest38
      case hy38 => (intro w hSw; (try dsimp only at hSw); simp only [List.getElem_toArray, List.getElem_cons_zero, List.getElem_cons_succ]; go_simp; (try with_reducible rfl))
      (try simp only [Act.put, List.getElem_toArray, List.getElem_cons_zero, List.getElem_cons_succ, List.setIfInBounds_toArray, List.set_cons_zero, List.set_cons_succ])
      refine wpAnyH_take (i := 7) (v := ?v39) rfl (by kernel_rfl) (by kernel_rfl) (by kernel_rfl) (fun _ _ _ h => h) (Or.inl ⟨by rfl, ?hy39⟩) (by assumption) ?rest39
      case hy39 => (intro w hSw; (try dsimp only at hSw); simp only [List.getElem_toArray, List.getElem_cons_zero, List.getElem_cons_succ]; go_simp; (try with_reducible rfl))
      (try simp only [Act.put, List.getElem_toArray, List.getElem_cons_zero, List.getElem_cons_succ, List.setIfInBounds_toArray, List.set_cons_zero, List.set_cons_succ])
      refine wpAnyH_take (i := 8) (v := ?v40) rfl (by kernel_rfl) (by kernel_rfl) (by kernel_rfl) (fun _ _ _ h => h) (Or.inl ⟨by rfl, ?hy40⟩) (by assumption) ?rest40
      case hy40 => (intro w hSw; (try dsimp only at hSw); simp only [List.getElem_toArray, List.getElem_cons_zero, List.getElem_cons_succ]; go_simp; (try with_reducible rfl))
      (try simp only [Act.put, List.getElem_toArray, List.getElem_cons_zero, List.getElem_cons_succ, List.setIfInBounds_toArray, List.set_cons_zero, List.set_cons_succ])
      refine wpAnyH_done (by kernel_rfl) ?_ _
      clear hHeld
      go_wp2
      go_roundw
      case rel => exact ⟨j + 1, by go_num, by omega, HO.out.drew⟩
      case measure => simp [intOf]; omega
    · have e : n = j := by omega
      subst e
      have e2 : decide ((n : Int) < (n : Int)) = false := by simp
      go_wp2
      go_ret
      exact ⟨rfl, ro⟩
set_option maxRecDepth 100000 in
set_option maxHeartbeats 4000000 in
theorem sameBlocks_any {w : World} {n : Nat} {v1 v2 : Value} {f : Nat → Nat → Int} (h1 : ElAt w v1 n 5 f) (h2 : ElAt w v2 n 5 f) (hn : (n : Int) ≤ 100000) : Calls Tryz.prog 63 #[v1, v2] w fun e w' => e = .returned (.bool true) ∧ Out 0 0 w w' := by
  obtain ⟨o1, c1, rfl, h1⟩ := h1
  obtain ⟨o2, c2, rfl, h2⟩ := h2
  have H1 := hid_mk h1
  have H2 := hid_mk h2
  have n0 : (0 : Int) ≤ (n : Int) := by omega
  have nn : ((n : Int) != (n : Int)) = false := by simp
  obtain ⟨nb, hnb⟩ : ∃ q : Int, (n : Int) ≤ q ∧ q ≤ 4611686018427387904 := ⟨n, by omega, by omega⟩
  clear h1 h2 hn
  go_enter Tryz.func63, Tryz.ntmps63
  go_wp2_with fail
  go_loopw [5] (fun u wr => ∃ j : Nat, u = .int .i64 (j : Int) ∧ j ≤ n ∧ Out 0 0 w wr) (fun u _ => n - (intOf u).toNat)
  case atStart => exact ⟨0, rfl, Nat.zero_le _, Out.refl _ _ _⟩
  case round =>
    obtain ⟨j, rfl, j1, ro⟩ := hrel
    have j0 : (0 : Int) ≤ (j : Int) := by omega
    have j4 : (j : Int) ≤ (n : Int) := by omega
    by_cases hj : j < n
    · have j2 : (j : Int) < (n : Int) := by omega
      obtain ⟨g1, hg1, hc1⟩ := H1.out (by omega)
      obtain ⟨g2, hg2, hc2⟩ := H2.out (by omega)
      subst hg1 hg2
      have p0 := ro.cell (hc1 j 0 hj (by omega)) (.inr (Nat.zero_le _))
      rw [show j * 5 + 0 = j * 5 from by omega] at p0
      have q0 := ro.cell (hc2 j 0 hj (by omega)) (.inr (Nat.zero_le _))
      rw [show j * 5 + 0 = j * 5 from by omega] at q0
      have p1 := ro.cell (hc1 j 1 hj (by omega)) (.inr (Nat.zero_le _))
      have q1 := ro.cell (hc2 j 1 hj (by omega)) (.inr (Nat.zero_le _))
      have p2 := ro.cell (hc1 j 2 hj (by omega)) (.inr (Nat.zero_le _))
      have q2 := ro.cell (hc2 j 2 hj (by omega)) (.inr (Nat.zero_le _))
      have p3 := ro.cell (hc1 j 3 hj (by omega)) (.inr (Nat.zero_le _))
      have q3 := ro.cell (hc2 j 3 hj (by omega)) (.inr (Nat.zero_le _))
      have p4 := ro.cell (hc1 j 4 hj (by omega)) (.inr (Nat.zero_le _))
      have q4 := ro.cell (hc2 j 4 hj (by omega)) (.inr (Nat.zero_le _))
      generalize f j 0 = x0 at p0 q0
      generalize f j 1 = x1 at p1 q1
      generalize f j 2 = x2 at p2 q2
      generalize f j 3 = x3 at p3 q3
      generalize f j 4 = x4 at p4 q4
      have z0 : (x0 == x0) = true := by simp
      have z1 : (x1 == x1) = true := by simp
      have z2 : (x2 == x2) = true := by simp
      have z3 : (x3 == x3) = true := by simp
      have z4 : (x4 == x4) = true := by simp
      have y0 : (x0 != x0) = false := by simp
      have y1 : (x1 != x1) = false := by simp
      have y2 : (x2 != x2) = false := by simp
      have y3 : (x3 != x3) = false := by simp
      have y4 : (x4 != x4) = false := by simp
      have HO := hid_mk ro
      clear ro hc1 hc2
      go_wp2_with fail
      refine wp_region_held_drew (S := fun w' => w'.cell? ⟨g1, j * 5, none⟩ = some (.int .i64 x0) ∧ w'.cell? ⟨g1, j * 5 + 1, none⟩ = some (.int .i64 x1) ∧ w'.cell? ⟨g1, j * 5 + 2, none⟩ = some (.int .i64 x2) ∧ w'.cell? ⟨g1, j * 5 + 3, none⟩ = some (.int .i64 x3) ∧ w'.cell? ⟨g1, j * 5 + 4, none⟩ = some (.int .i64 x4) ∧ w'.cell? ⟨g2, j * 5, none⟩ = some (.int .i64 x0) ∧ w'.cell? ⟨g2, j * 5 + 1, none⟩ = some (.int .i64 x1) ∧ w'.cell? ⟨g2, j * 5 + 2, none⟩ = some (.int .i64 x2) ∧ w'.cell? ⟨g2, j * 5 + 3, none⟩ = some (.int .i64 x3) ∧ w'.cell? ⟨g2, j * 5 + 4, none⟩ = some (.int .i64 x4)) (by kernel_rfl) ?hS51 (fun hHeld => ?rest51)
      case hS51 => exact ⟨p0, p1, p2, p3, p4, q0, q1, q2, q3, q4⟩
      refine wpAnyH_take (i := 0) (v := ?v52) rfl (by kernel_rfl) (by kernel_rfl) (by kernel_rfl) (fun _ _ _ h => h) (Or.inl ⟨by rfl, ?hy52⟩) (by assumption) ?rest52
      case hy52 => (intro w hSw; (try dsimp only at hSw); simp only [List.getElem_toArray, List.getElem_cons_zero, List.getElem_cons_succ]; go_simp; (try with_reducible rfl))
      (try simp only [Act.put, List.getElem_toArray, List.getElem_cons_zero, List.getElem_cons_succ, List.setIfInBounds_toArray, List.set_cons_zero, List.set_cons_succ])
      refine wpAnyH_take (i := 1) (v := ?v53) rfl (by kernel_rfl) (by kernel_rfl) (by kernel_rfl) (fun _ _ _ h => h) (Or.inl ⟨by rfl, ?hy53⟩) (by assumption) ?rest53
      case hy53 => (intro w hSw; (try dsimp only at hSw); simp only [List.getElem_toArray, List.getElem_cons_zero, List.getElem_cons_succ]; go_simp; (try with_reducible rfl))
      (try simp only [Act.put, List.getElem_toArray, List.getElem_cons_zero, List.getElem_cons_succ, List.setIfInBounds_toArray, List.set_cons_zero, List.set_cons_succ])
      refine wpAnyH_take (i := 2) (v := ?v54) rfl (by kernel_rfl) (by kernel_rfl) (by kernel_rfl) (fun _ _ _ h => h) (Or.inl ⟨by rfl, ?hy54⟩) (by assumption) ?rest54
      case hy54 => (intro w hSw; (try dsimp only at hSw); simp only [List.getElem_toArray, List.getElem_cons_zero, List.getElem_cons_succ]; go_simp; (try with_reducible rfl))
      (try simp only [Act.put, List.getElem_toArray, List.getElem_cons_zero, List.getElem_cons_succ, List.setIfInBounds_toArray, List.set_cons_zero, List.set_cons_succ])
      refine wpAnyH_take (i := 3) (v := ?v55) rfl (by kernel_rfl) (by kernel_rfl) (by kernel_rfl) (fun _ _ _ h => h) (Or.inl ⟨by rfl, ?hy55⟩) (by assumption) ?rest55
      case hy55 => (intro w hSw; (try dsimp only at hSw); simp only [List.getElem_toArray, List.getElem_cons_zero, List.getElem_cons_succ]; go_simp; (try with_reducible rfl))
      (try simp only [Act.put, List.getElem_toArray, List.getElem_cons_zero, List.getElem_cons_succ, List.setIfInBounds_toArray, List.set_cons_zero, List.set_cons_succ])
      refine wpAnyH_take (i := 4) (v := ?v56) rfl (by kernel_rfl) (by kernel_rfl) (by kernel_rfl) (fun _ _ _ h => h) (Or.inl ⟨by rfl, ?hy56⟩) (by assumption) ?rest56
      case hy56 => (intro w hSw; (try dsimp only at hSw); simp only [List.getElem_toArray, List.getElem_cons_zero, List.getElem_cons_succ]; go_simp; (try with_reducible rfl))
      (try simp only [Act.put, List.getElem_toArray, List.getElem_cons_zero, List.getElem_cons_succ, List.setIfInBounds_toArray, List.set_cons_zero, List.set_cons_succ])
      refine wpAnyH_take (i := 5) (v := ?v57) rfl (by kernel_rfl) (by kernel_rfl) (by kernel_rfl) (fun _ _ _ h => h) (Or.inl ⟨by rfl, ?hy57⟩) (by assumption) ?rest57
      case hy57 => (intro w hSw; (try dsimp only at hSw); simp only [List.getElem_toArray, List.getElem_cons_zero, List.getElem_cons_succ]; go_simp; (try with_reducible rfl))
      (try simp only [Act.put, List.getElem_toArray, List.getElem_cons_zero, List.getElem_cons_succ, List.setIfInBounds_toArray, List.set_cons_zero, List.set_cons_succ])
      refine wpAnyH_take (i := 6) (v := ?v58) rfl (by kernel_rfl) (by kernel_rfl) (by kernel_rfl) (fun _ _ _ h => h) (Or.inl ⟨by rfl, ?hy58⟩) (by assumption) ?rest58
      case hy58 => (intro w hSw; (try dsimp only at hSw); simp only [List.getElem_toArray, List.getElem_cons_zero, List.getElem_cons_succ]; go_simp; (try with_reducible rfl))
      (try simp only [Act.put, List.getElem_toArray, List.getElem_cons_zero, List.getElem_cons_succ, List.setIfInBounds_toArray, List.set_cons_zero, List.set_cons_succ])
      refine wpAnyH_take (i := 7) (v := ?v59) rfl (by kernel_rfl) (by kernel_rfl) (by kernel_rfl) (fun _ _ _ h => h) (Or.inl ⟨by rfl, ?hy59⟩) (by assumption) ?rest59
      case hy59 => (intro w hSw; (try dsimp only at hSw); simp only [List.getElem_toArray, List.getElem_cons_zero, List.getElem_cons_succ]; go_simp; (try with_reducible rfl))
      (try simp only [Act.put, List.getElem_toArray, List.getElem_cons_zero, List.getElem_cons_succ, List.setIfInBounds_toArray, List.set_cons_zero, List.set_cons_succ])
      refine wpAnyH_take (i := 8) (v := ?v60) rfl (by kernel_rfl) (by kernel_rfl) (by kernel_rfl) (fun _ _ _ h => h) (Or.inl ⟨by rfl, ?hy60⟩) (by assumption) ?rest60
      case hy60 => (intro w hSw; (try dsimp only at hSw); simp only [List.getElem_toArray, List.getElem_cons_zero, List.getElem_cons_succ]; go_simp; (try with_reducible rfl))
      (try simp only [Act.put, List.getElem_toArray, List.getElem_cons_zero, List.getElem_cons_succ, List.setIfInBounds_toArray, List.set_cons_zero, List.set_cons_succ])
      refine wpAnyH_done (by kernel_rfl) ?_ _
      clear hHeld
      go_wp2
      go_roundw
      case rel => exact ⟨j + 1, by go_num, by omega, HO.out.drew⟩
      case measure => simp [intOf]; omega
    · have e : n = j := by omega
      subst e
      have e2 : decide ((n : Int) < (n : Int)) = false := by simp
      go_wp2
      go_ret
      exact ⟨rfl, ro⟩
end Go.Proofs.YtjbbkeoolodeaaaGreatDoor
