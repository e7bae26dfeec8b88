import Derived.Test.YtjbbkeoolodeaaaGreatDoorG40
import Derived.Test.YtjbbkeoolodeaaaGreatDoorG20
import Derived.Laws.FloatArith
namespace Go.Proofs.YtjbbkeoolodeaaaGreatDoor
open Go.RowKit
set_option linter.unusedVariables false
set_option linter.unusedSimpArgs false

section
variable {B : Nat} {w w' : World} {b lo hi lo' hi' n cap cw co c c' : Nat} {s sr : Nat → Nat} {st : Sp} {col col' : Nat → Nat} {z z' : Bool}
set_option maxRecDepth 100000 in
set_option maxHeartbeats 16000000 in
theorem looked19_any (h : PS B w b lo hi lo' hi' s sr n cap cw co st col z c) {v : Nat} (hv : useQ n (usedTo (rawOf n st) (64 * n)) = some v) (hvv : FloatKind.f64.format.order v v = some .eq) (o0 o2 o3 o4 : Int) (lp : Option Addr) (ll lc : Nat) : Calls Tryz.prog 11 #[.pointer (some ⟨b, 0, none⟩), .agg #[.int .i64 o0, .int .i64 19, .int .i64 o2, .int .i64 o3, .int .i64 o4, .slice lp ll lc]] w fun e w' => e = .returned (.bool true) ∧ Out 0 0 w w' := by
  obtain ⟨X, hX⟩ : ∃ X, s 14 = X := ⟨_, rfl⟩
  obtain ⟨Y, hY⟩ : ∃ Y, sr 0 = Y := ⟨_, rfl⟩
  obtain ⟨u, hu⟩ : ∃ u, usedTo (rawOf n st) (64 * n) = u := ⟨_, rfl⟩
  obtain ⟨M, hM⟩ : ∃ M, 64 * n = M := ⟨_, rfl⟩
  have HW : Hid (∀ W, Out 0 0 w W → Calls Tryz.prog 15 #[.pointer (some ⟨X, 0, none⟩)] W fun e w' => e = .returned (.int .i64 (M : Int)) ∧ Out 0 0 W w') := fun W o => by
    have q := spWords_any (h.sp.quiet o).1
    rw [hX, hM] at q
    exact q.mono fun e w' ⟨h1, h2⟩ => ⟨h1, h2 ▸ Out.refl 0 0 _⟩
  have HU : Hid (∀ W, Out 0 0 w W → Calls Tryz.prog 34 #[.pointer (some ⟨X, 0, none⟩)] W fun e w' => e = .returned (.float .f64 v) ∧ Out 0 0 W w') := fun W o => by
    have q := use_any (h.sp.quiet o).1 (told_of st) (rooms_of h.sp.2) hv
    rw [hX] at q
    exact q
  have HR : Hid (∀ W, Out 0 0 w W → Calls Tryz.prog 35 #[.pointer (some ⟨Y, 0, none⟩)] W fun e w' => e = .returned (.int .i64 (u : Int)) ∧ Out 0 0 W w') := fun W o => by
    have q := refRoomAll_any (h.rf.quiet o) h.sp.2
    rw [hY, hu] at q
    exact q.mono fun e w' ⟨h1, h2⟩ => ⟨h1, h2 ▸ Out.refl 0 0 _⟩
  obtain ⟨p0, p1⟩ := h.ks.cells
  have p2 := h.rf.cells.1
  rw [hX] at p0
  rw [hY] at p1 p2
  rw [hM] at p2
  have hv2 : floatBits .quo .f64 (floatOfInt .f64 (u : Int)) (floatOfInt .f64 (M : Int)) = some v := by
    rw [← hM, show ((64 * n : Nat) : Int) = 64 * (n : Int) from by omega, ← hu]
    exact hv
  have hdv : ∀ wx, (binOp .quo 67 (.float .f64 (floatOfInt .f64 (u : Int))) (.float .f64 (floatOfInt .f64 (M : Int)))).run Tryz.prog wx = .ok (.float .f64 v) wx := fun wx => run_float_arith wx _ _ _ _ _ _ hv2
  have hbe : (FloatKind.f64.format.order v v == some Ordering.eq) = true := by rw [hvv]; rfl
  clear h hX hY hv hu hM hv2
  go_enter Tryz.func11, Tryz.ntmps11
  go_wp2_with fail
  obtain ⟨W, hW⟩ : ∃ W, w.alloc (.cells #[.int .i64 o0, .int .i64 19, .int .i64 o2, .int .i64 o3, .int .i64 o4, .slice lp ll lc] 29) = W := ⟨_, rfl⟩
  have oW : Out 0 0 w W := by rw [← hW]; exact (Out.refl 0 0 _).alloc _
  replace p0 := oW.cell p0 (.inr (Nat.zero_le _))
  replace p1 := oW.cell p1 (.inr (Nat.zero_le _))
  rw [hW]
  clear hW
  replace p2 := oW.cell p2 (.inr (Nat.zero_le _))
  refine wp_region_held_drew (S := fun w' => w'.cell? ⟨b, 0, none⟩ = some (.pointer (some ⟨X, 0, none⟩)) ∧ w'.cell? ⟨b, 1, none⟩ = some (.pointer (some ⟨Y, 0, none⟩)) ∧ w'.cell? ⟨Y, 0, none⟩ = some (.slice (some ⟨sr 1, 0, none⟩) M cw) ∧ Out 0 0 w w') (by kernel_rfl) ?hS46 (fun hHeld => ?rest46)
  case hS46 => exact ⟨p0, p1, p2, oW.drew⟩
  refine wpAnyH_take (i := 0) (v := ?v47) rfl (by kernel_rfl) (by kernel_rfl) (by kernel_rfl) (fun _ _ _ h => h) (Or.inl ⟨by rfl, ?hy47⟩) (by assumption) ?rest47
  case hy47 => (intro w hSw; (try dsimp only at hSw); simp only [List.getElem_toArray, List.getElem_cons_zero, List.getElem_cons_succ]; go_simp; (try with_reducible rfl))
  (try simp only [Act.put, List.getElem_toArray, List.getElem_cons_zero, List.getElem_cons_succ, List.setIfInBounds_toArray, List.set_cons_zero, List.set_cons_succ])
  refine wpAnyH_take (i := 1) (v := ?v48) rfl (by kernel_rfl) (by kernel_rfl) (by kernel_rfl) (fun _ _ _ h => h) (Or.inl ⟨by rfl, ?hy48⟩) (by assumption) ?rest48
  case hy48 => (intro w hSw; (try dsimp only at hSw); simp only [List.getElem_toArray, List.getElem_cons_zero, List.getElem_cons_succ]; go_simp; (try with_reducible rfl))
  (try simp only [Act.put, List.getElem_toArray, List.getElem_cons_zero, List.getElem_cons_succ, List.setIfInBounds_toArray, List.set_cons_zero, List.set_cons_succ])
  refine wpAnyH_take (i := 2) (v := ?v49) rfl (by kernel_rfl) (by kernel_rfl) (by kernel_rfl) (fun _ _ _ h => h) (Or.inl ⟨by rfl, ?hy49⟩) (by assumption) ?rest49
  case hy49 => (intro w hSw; (try dsimp only at hSw); simp only [List.getElem_toArray, List.getElem_cons_zero, List.getElem_cons_succ]; go_simp; (try with_reducible rfl))
  (try simp only [Act.put, List.getElem_toArray, List.getElem_cons_zero, List.getElem_cons_succ, List.setIfInBounds_toArray, List.set_cons_zero, List.set_cons_succ])
  refine wpAnyH_take (i := 3) (v := ?v50) rfl (by kernel_rfl) (by kernel_rfl) (by kernel_rfl) (fun _ _ _ h => h) (Or.inl ⟨by rfl, ?hy50⟩) (by assumption) ?rest50
  case hy50 => (intro w hSw; (try dsimp only at hSw); simp only [List.getElem_toArray, List.getElem_cons_zero, List.getElem_cons_succ]; go_simp; (try with_reducible rfl))
  (try simp only [Act.put, List.getElem_toArray, List.getElem_cons_zero, List.getElem_cons_succ, List.setIfInBounds_toArray, List.set_cons_zero, List.set_cons_succ])
  refine wpAnyH_take (i := 5) (v := ?v51) rfl (by kernel_rfl) (by kernel_rfl) (by kernel_rfl) (fun _ _ _ h => h) (Or.inl ⟨by rfl, ?hy51⟩) (by assumption) ?rest51
  case hy51 => (intro w hSw; (try dsimp only at hSw); simp only [List.getElem_toArray, List.getElem_cons_zero, List.getElem_cons_succ]; go_simp; (try with_reducible rfl))
  (try simp only [Act.put, List.getElem_toArray, List.getElem_cons_zero, List.getElem_cons_succ, List.setIfInBounds_toArray, List.set_cons_zero, List.set_cons_succ])
  refine wpAnyH_take (i := 6) (v := ?v52) rfl (by kernel_rfl) (by kernel_rfl) (by kernel_rfl) (fun _ _ _ h => h) (Or.inl ⟨by rfl, ?hy52⟩) (by assumption) ?rest52
  case hy52 => (intro w hSw; (try dsimp only at hSw); simp only [List.getElem_toArray, List.getElem_cons_zero, List.getElem_cons_succ]; go_simp; (try with_reducible rfl))
  (try simp only [Act.put, List.getElem_toArray, List.getElem_cons_zero, List.getElem_cons_succ, List.setIfInBounds_toArray, List.set_cons_zero, List.set_cons_succ])
  refine wpAnyH_take (i := 7) (v := ?v53) rfl (by kernel_rfl) (by kernel_rfl) (by kernel_rfl) (fun _ _ _ h => h) (Or.inl ⟨by rfl, ?hy53⟩) (by assumption) ?rest53
  case hy53 => (intro w hSw; (try dsimp only at hSw); simp only [List.getElem_toArray, List.getElem_cons_zero, List.getElem_cons_succ]; go_simp; (try with_reducible rfl))
  (try simp only [Act.put, List.getElem_toArray, List.getElem_cons_zero, List.getElem_cons_succ, List.setIfInBounds_toArray, List.set_cons_zero, List.set_cons_succ])
  refine wpAnyH_take (i := 8) (v := ?v54) rfl (by kernel_rfl) (by kernel_rfl) (by kernel_rfl) (fun _ _ _ h => h) (Or.inl ⟨by rfl, ?hy54⟩) (by assumption) ?rest54
  case hy54 => (intro w hSw; (try dsimp only at hSw); simp only [List.getElem_toArray, List.getElem_cons_zero, List.getElem_cons_succ]; go_simp; (try with_reducible rfl))
  (try simp only [Act.put, List.getElem_toArray, List.getElem_cons_zero, List.getElem_cons_succ, List.setIfInBounds_toArray, List.set_cons_zero, List.set_cons_succ])
  refine wpAnyH_take (i := 9) (v := ?v55) rfl (by kernel_rfl) (by kernel_rfl) (by kernel_rfl) (fun _ _ _ h => h) (Or.inl ⟨by rfl, ?hy55⟩) (by assumption) ?rest55
  case hy55 => (intro w hSw; (try dsimp only at hSw); simp only [List.getElem_toArray, List.getElem_cons_zero, List.getElem_cons_succ]; go_simp; (try with_reducible rfl))
  (try simp only [Act.put, List.getElem_toArray, List.getElem_cons_zero, List.getElem_cons_succ, List.setIfInBounds_toArray, List.set_cons_zero, List.set_cons_succ])
  refine wpAnyH_take (i := 10) (v := ?v56) rfl (by kernel_rfl) (by kernel_rfl) (by kernel_rfl) (fun _ _ _ h => h) (Or.inl ⟨by rfl, ?hy56⟩) (by assumption) ?rest56
  case hy56 => (intro w hSw; (try dsimp only at hSw); simp only [List.getElem_toArray, List.getElem_cons_zero, List.getElem_cons_succ]; go_simp; (try with_reducible rfl))
  (try simp only [Act.put, List.getElem_toArray, List.getElem_cons_zero, List.getElem_cons_succ, List.setIfInBounds_toArray, List.set_cons_zero, List.set_cons_succ])
  refine wpAnyH_take (i := 11) (v := ?v57) rfl (by kernel_rfl) (by kernel_rfl) (by kernel_rfl) (fun _ _ _ h => h) (Or.inl ⟨by rfl, ?hy57⟩) (by assumption) ?rest57
  case hy57 => (intro w hSw; (try dsimp only at hSw); simp only [List.getElem_toArray, List.getElem_cons_zero, List.getElem_cons_succ]; go_simp; (try with_reducible rfl))
  (try simp only [Act.put, List.getElem_toArray, List.getElem_cons_zero, List.getElem_cons_succ, List.setIfInBounds_toArray, List.set_cons_zero, List.set_cons_succ])
  refine wpAnyH_take (i := 12) (v := ?v58) rfl (by kernel_rfl) (by kernel_rfl) (by kernel_rfl) (fun _ _ _ h => h) (Or.inl ⟨by rfl, ?hy58⟩) (by assumption) ?rest58
  case hy58 => (intro w hSw; (try dsimp only at hSw); simp only [List.getElem_toArray, List.getElem_cons_zero, List.getElem_cons_succ]; go_simp; (try with_reducible rfl))
  (try simp only [Act.put, List.getElem_toArray, List.getElem_cons_zero, List.getElem_cons_succ, List.setIfInBounds_toArray, List.set_cons_zero, List.set_cons_succ])
  refine wpAnyH_ready (rs := [4]) (by kernel_rfl) (by simp) ?_
  refine AllReadyH.cons rfl (fun KK hK => ?_) AllReadyH.nil
  simp only [List.getElem_toArray, List.getElem_cons_zero, List.getElem_cons_succ]
  go_simp
  refine (HW.out _ hHeld.2.2.2).mono ?_
  rintro e V1 ⟨rfl, q1⟩
  refine hK.out _ _ ?hS59 (fun hHeld2 => ?rest59)
  case hS59 => exact ⟨q1.cell hHeld.1 (.inr (Nat.zero_le _)), q1.cell hHeld.2.1 (.inr (Nat.zero_le _)), q1.cell hHeld.2.2.1 (.inr (Nat.zero_le _)), hHeld.2.2.2.trans q1⟩
  clear hK KK
  (try clear hHeld)
  have hHeld := hHeld2
  clear hHeld2
  (try simp only [Act.put, List.getElem_toArray, List.getElem_cons_zero, List.getElem_cons_succ, List.setIfInBounds_toArray, List.set_cons_zero, List.set_cons_succ])
  refine wpAnyH_take (i := 13) (v := ?v60) rfl (by kernel_rfl) (by kernel_rfl) (by kernel_rfl) (fun _ _ _ h => h) (Or.inl ⟨by rfl, ?hy60⟩) (by assumption) ?rest60
  case hy60 => (intro w hSw; (try dsimp only at hSw); simp only [List.getElem_toArray, List.getElem_cons_zero, List.getElem_cons_succ]; go_simp; (try with_reducible rfl))
  (try simp only [Act.put, List.getElem_toArray, List.getElem_cons_zero, List.getElem_cons_succ, List.setIfInBounds_toArray, List.set_cons_zero, List.set_cons_succ])
  refine wpAnyH_take (i := 14) (v := ?v61) rfl (by kernel_rfl) (by kernel_rfl) (by kernel_rfl) (fun _ _ _ h => h) (Or.inl ⟨by rfl, ?hy61⟩) (by assumption) ?rest61
  case hy61 => (intro w hSw; (try dsimp only at hSw); simp only [List.getElem_toArray, List.getElem_cons_zero, List.getElem_cons_succ]; go_simp; (try with_reducible rfl))
  (try simp only [Act.put, List.getElem_toArray, List.getElem_cons_zero, List.getElem_cons_succ, List.setIfInBounds_toArray, List.set_cons_zero, List.set_cons_succ])
  refine wpAnyH_take (i := 15) (v := ?v62) rfl (by kernel_rfl) (by kernel_rfl) (by kernel_rfl) (fun _ _ _ h => h) (Or.inl ⟨by rfl, ?hy62⟩) (by assumption) ?rest62
  case hy62 => (intro w hSw; (try dsimp only at hSw); simp only [List.getElem_toArray, List.getElem_cons_zero, List.getElem_cons_succ]; go_simp; (try with_reducible rfl))
  (try simp only [Act.put, List.getElem_toArray, List.getElem_cons_zero, List.getElem_cons_succ, List.setIfInBounds_toArray, List.set_cons_zero, List.set_cons_succ])
  refine wpAnyH_take (i := 16) (v := ?v63) rfl (by kernel_rfl) (by kernel_rfl) (by kernel_rfl) (fun _ _ _ h => h) (Or.inl ⟨by rfl, ?hy63⟩) (by assumption) ?rest63
  case hy63 => (intro w hSw; (try dsimp only at hSw); simp only [List.getElem_toArray, List.getElem_cons_zero, List.getElem_cons_succ]; go_simp; (try with_reducible rfl))
  (try simp only [Act.put, List.getElem_toArray, List.getElem_cons_zero, List.getElem_cons_succ, List.setIfInBounds_toArray, List.set_cons_zero, List.set_cons_succ])
  refine wpAnyH_take (i := 17) (v := ?v64) rfl (by kernel_rfl) (by kernel_rfl) (by kernel_rfl) (fun _ _ _ h => h) (Or.inl ⟨by rfl, ?hy64⟩) (by assumption) ?rest64
  case hy64 => (intro w hSw; (try dsimp only at hSw); simp only [List.getElem_toArray, List.getElem_cons_zero, List.getElem_cons_succ]; go_simp; (try with_reducible rfl))
  (try simp only [Act.put, List.getElem_toArray, List.getElem_cons_zero, List.getElem_cons_succ, List.setIfInBounds_toArray, List.set_cons_zero, List.set_cons_succ])
  refine wpAnyH_take (i := 18) (v := ?v65) rfl (by kernel_rfl) (by kernel_rfl) (by kernel_rfl) (fun _ _ _ h => h) (Or.inl ⟨by rfl, ?hy65⟩) (by assumption) ?rest65
  case hy65 => (intro w hSw; (try dsimp only at hSw); simp only [List.getElem_toArray, List.getElem_cons_zero, List.getElem_cons_succ]; go_simp; (try with_reducible rfl))
  (try simp only [Act.put, List.getElem_toArray, List.getElem_cons_zero, List.getElem_cons_succ, List.setIfInBounds_toArray, List.set_cons_zero, List.set_cons_succ])
  refine wpAnyH_take (i := 20) (v := ?v66) rfl (by kernel_rfl) (by kernel_rfl) (by kernel_rfl) (fun _ _ _ h => h) (Or.inl ⟨by rfl, ?hy66⟩) (by assumption) ?rest66
  case hy66 => (intro w hSw; (try dsimp only at hSw); simp only [List.getElem_toArray, List.getElem_cons_zero, List.getElem_cons_succ]; go_simp; (try with_reducible rfl))
  (try simp only [Act.put, List.getElem_toArray, List.getElem_cons_zero, List.getElem_cons_succ, List.setIfInBounds_toArray, List.set_cons_zero, List.set_cons_succ])
  refine wpAnyH_take (i := 21) (v := ?v67) rfl (by kernel_rfl) (by kernel_rfl) (by kernel_rfl) (fun _ _ _ h => h) (Or.inl ⟨by rfl, ?hy67⟩) (by assumption) ?rest67
  case hy67 => (intro w hSw; (try dsimp only at hSw); simp only [List.getElem_toArray, List.getElem_cons_zero, List.getElem_cons_succ]; go_simp; (try with_reducible rfl))
  (try simp only [Act.put, List.getElem_toArray, List.getElem_cons_zero, List.getElem_cons_succ, List.setIfInBounds_toArray, List.set_cons_zero, List.set_cons_succ])
  refine wpAnyH_take (i := 22) (v := ?v68) rfl (by kernel_rfl) (by kernel_rfl) (by kernel_rfl) (fun _ _ _ h => h) (Or.inl ⟨by rfl, ?hy68⟩) (by assumption) ?rest68
  case hy68 => (intro w hSw; (try dsimp only at hSw); simp only [List.getElem_toArray, List.getElem_cons_zero, List.getElem_cons_succ]; go_simp; (try with_reducible rfl))
  (try simp only [Act.put, List.getElem_toArray, List.getElem_cons_zero, List.getElem_cons_succ, List.setIfInBounds_toArray, List.set_cons_zero, List.set_cons_succ])
  refine wpAnyH_take (i := 23) (v := ?v69) rfl (by kernel_rfl) (by kernel_rfl) (by kernel_rfl) (fun _ _ _ h => h) (Or.inl ⟨by rfl, ?hy69⟩) (by assumption) ?rest69
  case hy69 => (intro w hSw; (try dsimp only at hSw); simp only [List.getElem_toArray, List.getElem_cons_zero, List.getElem_cons_succ]; go_simp; (try with_reducible rfl))
  (try simp only [Act.put, List.getElem_toArray, List.getElem_cons_zero, List.getElem_cons_succ, List.setIfInBounds_toArray, List.set_cons_zero, List.set_cons_succ])
  refine wpAnyH_take (i := 26) (v := ?v70) rfl (by kernel_rfl) (by kernel_rfl) (by kernel_rfl) (fun _ _ _ h => h) (Or.inl ⟨by rfl, ?hy70⟩) (by assumption) ?rest70
  case hy70 => (intro w hSw; (try dsimp only at hSw); simp only [List.getElem_toArray, List.getElem_cons_zero, List.getElem_cons_succ]; go_simp; (try with_reducible rfl))
  (try simp only [Act.put, List.getElem_toArray, List.getElem_cons_zero, List.getElem_cons_succ, List.setIfInBounds_toArray, List.set_cons_zero, List.set_cons_succ])
  refine wpAnyH_take (i := 27) (v := ?v71) rfl (by kernel_rfl) (by kernel_rfl) (by kernel_rfl) (fun _ _ _ h => h) (Or.inl ⟨by rfl, ?hy71⟩) (by assumption) ?rest71
  case hy71 => (intro w hSw; (try dsimp only at hSw); simp only [List.getElem_toArray, List.getElem_cons_zero, List.getElem_cons_succ]; go_simp; (try with_reducible rfl))
  (try simp only [Act.put, List.getElem_toArray, List.getElem_cons_zero, List.getElem_cons_succ, List.setIfInBounds_toArray, List.set_cons_zero, List.set_cons_succ])
  refine wpAnyH_take (i := 28) (v := ?v72) rfl (by kernel_rfl) (by kernel_rfl) (by kernel_rfl) (fun _ _ _ h => h) (Or.inl ⟨by rfl, ?hy72⟩) (by assumption) ?rest72
  case hy72 => (intro w hSw; (try dsimp only at hSw); simp only [List.getElem_toArray, List.getElem_cons_zero, List.getElem_cons_succ]; go_simp; (try with_reducible rfl))
  (try simp only [Act.put, List.getElem_toArray, List.getElem_cons_zero, List.getElem_cons_succ, List.setIfInBounds_toArray, List.set_cons_zero, List.set_cons_succ])
  refine wpAnyH_take (i := 29) (v := ?v73) rfl (by kernel_rfl) (by kernel_rfl) (by kernel_rfl) (fun _ _ _ h => h) (Or.inl ⟨by rfl, ?hy73⟩) (by assumption) ?rest73
  case hy73 => (intro w hSw; (try dsimp only at hSw); simp only [List.getElem_toArray, List.getElem_cons_zero, List.getElem_cons_succ]; go_simp; (try with_reducible rfl))
  (try simp only [Act.put, List.getElem_toArray, List.getElem_cons_zero, List.getElem_cons_succ, List.setIfInBounds_toArray, List.set_cons_zero, List.set_cons_succ])
  refine wpAnyH_take (i := 30) (v := ?v74) rfl (by kernel_rfl) (by kernel_rfl) (by kernel_rfl) (fun _ _ _ h => h) (Or.inl ⟨by rfl, ?hy74⟩) (by assumption) ?rest74
  case hy74 => (intro w hSw; (try dsimp only at hSw); simp only [List.getElem_toArray, List.getElem_cons_zero, List.getElem_cons_succ]; go_simp; (try with_reducible rfl))
  (try simp only [Act.put, List.getElem_toArray, List.getElem_cons_zero, List.getElem_cons_succ, List.setIfInBounds_toArray, List.set_cons_zero, List.set_cons_succ])
  refine wpAnyH_take (i := 31) (v := ?v75) rfl (by kernel_rfl) (by kernel_rfl) (by kernel_rfl) (fun _ _ _ h => h) (Or.inl ⟨by rfl, ?hy75⟩) (by assumption) ?rest75
  case hy75 => (intro w hSw; (try dsimp only at hSw); simp only [List.getElem_toArray, List.getElem_cons_zero, List.getElem_cons_succ]; go_simp; (try with_reducible rfl))
  (try simp only [Act.put, List.getElem_toArray, List.getElem_cons_zero, List.getElem_cons_succ, List.setIfInBounds_toArray, List.set_cons_zero, List.set_cons_succ])
  refine wpAnyH_take (i := 32) (v := ?v76) rfl (by kernel_rfl) (by kernel_rfl) (by kernel_rfl) (fun _ _ _ h => h) (Or.inl ⟨by rfl, ?hy76⟩) (by assumption) ?rest76
  case hy76 => (intro w hSw; (try dsimp only at hSw); simp only [List.getElem_toArray, List.getElem_cons_zero, List.getElem_cons_succ]; go_simp; (try with_reducible rfl))
  (try simp only [Act.put, List.getElem_toArray, List.getElem_cons_zero, List.getElem_cons_succ, List.setIfInBounds_toArray, List.set_cons_zero, List.set_cons_succ])
  refine wpAnyH_take (i := 33) (v := ?v77) rfl (by kernel_rfl) (by kernel_rfl) (by kernel_rfl) (fun _ _ _ h => h) (Or.inl ⟨by rfl, ?hy77⟩) (by assumption) ?rest77
  case hy77 => (intro w hSw; (try dsimp only at hSw); simp only [List.getElem_toArray, List.getElem_cons_zero, List.getElem_cons_succ]; go_simp; (try with_reducible rfl))
  (try simp only [Act.put, List.getElem_toArray, List.getElem_cons_zero, List.getElem_cons_succ, List.setIfInBounds_toArray, List.set_cons_zero, List.set_cons_succ])
  refine wpAnyH_take (i := 34) (v := ?v78) rfl (by kernel_rfl) (by kernel_rfl) (by kernel_rfl) (fun _ _ _ h => h) (Or.inl ⟨by rfl, ?hy78⟩) (by assumption) ?rest78
  case hy78 => (intro w hSw; (try dsimp only at hSw); simp only [List.getElem_toArray, List.getElem_cons_zero, List.getElem_cons_succ]; go_simp; (try with_reducible rfl))
  (try simp only [Act.put, List.getElem_toArray, List.getElem_cons_zero, List.getElem_cons_succ, List.setIfInBounds_toArray, List.set_cons_zero, List.set_cons_succ])
  refine wpAnyH_ready (rs := [19]) (by kernel_rfl) (by simp) ?_
  refine AllReadyH.cons rfl (fun KK hK => ?_) AllReadyH.nil
  simp only [List.getElem_toArray, List.getElem_cons_zero, List.getElem_cons_succ]
  go_simp
  refine (HU.out _ hHeld.2.2.2).mono ?_
  rintro e V2 ⟨rfl, q2⟩
  refine hK.out _ _ ?hS79 (fun hHeld2 => ?rest79)
  case hS79 => exact ⟨q2.cell hHeld.1 (.inr (Nat.zero_le _)), q2.cell hHeld.2.1 (.inr (Nat.zero_le _)), q2.cell hHeld.2.2.1 (.inr (Nat.zero_le _)), hHeld.2.2.2.trans q2⟩
  clear hK KK
  (try clear hHeld)
  have hHeld := hHeld2
  clear hHeld2
  (try simp only [Act.put, List.getElem_toArray, List.getElem_cons_zero, List.getElem_cons_succ, List.setIfInBounds_toArray, List.set_cons_zero, List.set_cons_succ])
  refine wpAnyH_ready (rs := [24]) (by kernel_rfl) (by simp) ?_
  refine AllReadyH.cons rfl (fun KK hK => ?_) AllReadyH.nil
  simp only [List.getElem_toArray, List.getElem_cons_zero, List.getElem_cons_succ]
  go_simp
  refine (HR.out _ hHeld.2.2.2).mono ?_
  rintro e V3 ⟨rfl, q3⟩
  refine hK.out _ _ ?hS80 (fun hHeld2 => ?rest80)
  case hS80 => exact ⟨q3.cell hHeld.1 (.inr (Nat.zero_le _)), q3.cell hHeld.2.1 (.inr (Nat.zero_le _)), q3.cell hHeld.2.2.1 (.inr (Nat.zero_le _)), hHeld.2.2.2.trans q3⟩
  clear hK KK
  (try clear hHeld)
  have hHeld := hHeld2
  clear hHeld2
  (try simp only [Act.put, List.getElem_toArray, List.getElem_cons_zero, List.getElem_cons_succ, List.setIfInBounds_toArray, List.set_cons_zero, List.set_cons_succ])
  refine wpAnyH_take (i := 25) (v := ?v81) rfl (by kernel_rfl) (by kernel_rfl) (by kernel_rfl) (fun _ _ _ h => h) (Or.inl ⟨by rfl, ?hy81⟩) (by assumption) ?rest81
  case hy81 => (intro w hSw; (try dsimp only at hSw); simp only [List.getElem_toArray, List.getElem_cons_zero, List.getElem_cons_succ]; go_simp; (try with_reducible rfl))
  (try simp only [Act.put, List.getElem_toArray, List.getElem_cons_zero, List.getElem_cons_succ, List.setIfInBounds_toArray, List.set_cons_zero, List.set_cons_succ])
  refine wpAnyH_take (i := 35) (v := ?v82) rfl (by kernel_rfl) (by kernel_rfl) (by kernel_rfl) (fun _ _ _ h => h) (Or.inl ⟨by rfl, ?hy82⟩) (by assumption) ?rest82
  case hy82 => (intro w hSw; (try dsimp only at hSw); simp only [List.getElem_toArray, List.getElem_cons_zero, List.getElem_cons_succ]; go_simp; (try with_reducible rfl))
  (try simp only [Act.put, List.getElem_toArray, List.getElem_cons_zero, List.getElem_cons_succ, List.setIfInBounds_toArray, List.set_cons_zero, List.set_cons_succ])
  refine wpAnyH_take (i := 36) (v := ?v83) rfl (by kernel_rfl) (by kernel_rfl) (by kernel_rfl) (fun _ _ _ h => h) (Or.inl ⟨by rfl, ?hy83⟩) (by assumption) ?rest83
  case hy83 => (intro w hSw; (try dsimp only at hSw); simp only [List.getElem_toArray, List.getElem_cons_zero, List.getElem_cons_succ]; go_simp; (try with_reducible rfl))
  (try simp only [Act.put, List.getElem_toArray, List.getElem_cons_zero, List.getElem_cons_succ, List.setIfInBounds_toArray, List.set_cons_zero, List.set_cons_succ])
  refine wpAnyH_take (i := 37) (v := ?v84) rfl (by kernel_rfl) (by kernel_rfl) (by kernel_rfl) (fun _ _ _ h => h) (Or.inl ⟨by rfl, ?hy84⟩) (by assumption) ?rest84
  case hy84 => (intro w hSw; (try dsimp only at hSw); simp only [List.getElem_toArray, List.getElem_cons_zero, List.getElem_cons_succ]; go_simp; (try with_reducible rfl))
  (try simp only [Act.put, List.getElem_toArray, List.getElem_cons_zero, List.getElem_cons_succ, List.setIfInBounds_toArray, List.set_cons_zero, List.set_cons_succ])
  refine wpAnyH_take (i := 38) (v := ?v85) rfl (by kernel_rfl) (by kernel_rfl) (by kernel_rfl) (fun _ _ _ h => h) (Or.inl ⟨by rfl, ?hy85⟩) (by assumption) ?rest85
  case hy85 => (intro w hSw; (try dsimp only at hSw); simp only [List.getElem_toArray, List.getElem_cons_zero, List.getElem_cons_succ]; go_simp; (try with_reducible rfl))
  (try simp only [Act.put, List.getElem_toArray, List.getElem_cons_zero, List.getElem_cons_succ, List.setIfInBounds_toArray, List.set_cons_zero, List.set_cons_succ])
  refine wpAnyH_done (by kernel_rfl) ?_ _
  have hE := hHeld.2.2.2
  clear hHeld
  go_wp2
  go_ret
  exact ⟨rfl, hE⟩
theorem use_zero24' : ((List.range 25).all fun n => n == 0 || useQ n 0 == some 0) = true := by decide +kernel
theorem use_zero24 {n : Nat} (h1 : 1 ≤ n) (h2 : n ≤ 24) : useQ n 0 = some 0 := by
  have h := use_zero24'
  rw [List.all_eq_true] at h
  have h3 := h n (by simp; omega)
  rw [show (n == 0) = false from by simp; omega, Bool.false_or] at h3
  simpa using h3
/-- a fresh pair -/
theorem ps_new {m : Nat} (h1 : SpAt w lo m s n cap newSp) (h2 : RfAt w m b sr n cw co newSp) (h3 : w.heap[b]? = some (pr0 (s 14) (sr 0))) (h4 : w.heap.size = b + 1) (hl : lo ≤ m ∧ m ≤ b) (hn : n ≤ 24) : PS (b + 1) w b lo m m b s sr n cap cw co newSp (fun k => if k = b then 0 else 7) true 0 := by
  refine ⟨h1, h2, ⟨fun i => if i = 0 then .pointer (some ⟨s 14, 0, none⟩) else if i = 1 then .pointer (some ⟨sr 0, 0, none⟩) else .slice none 0 0, fun _ => [], fun _ _ => (0, fun _ _ => 0), fun _ => 0, 0, 0, 0, 0, 0, ⟨by omega, h3, if_pos rfl, fun i i2 i14 => ?_, fun i i2 i14 x hx => ?_, fun t i v ht hp hv => ?_, fun t i v ht hv => ?_, fun t i v z ht hv hz => ?_⟩, ⟨⟨rfl, rfl, rfl, rfl, rfl, rfl⟩, ⟨rfl, rfl⟩, ⟨rfl, rfl⟩, ⟨rfl, rfl⟩⟩, ⟨by omega, by omega, by omega, by omega⟩, ⟨rfl, rfl⟩, fun _ => rfl⟩, fun k hk => ?_, hl.1, hl.2, hn⟩
  · rw [if_neg (by omega), if_neg (by omega)]
    exact World.ownsRow_nil _ _ _ 1
  · rw [if_neg (by omega), if_neg (by omega)] at hx
    cases hx
  · cases hv
  · cases hv
  · cases hv
  · have g1 := h1.1.glob
    show (if k = b then 0 else 7) = 7
    rw [if_neg (by omega)]
end
set_option maxRecDepth 100000 in
set_option maxHeartbeats 16000000 in
theorem news_any {w : World} (hT : Tab w) (n : Int) : Calls Tryz.prog 3 #[.int .i64 n] w fun e w' => e = .returned (.bool true) ∧ Below w.heap.size w w' := by
  cases hB : newB n with
  | false =>
    have HM := hid_mk (made_no n hB w)
    have HA := hid_mk (alive_any hT)
    clear hB hT
    go_enter Tryz.func3, Tryz.ntmps3
    go_wp2_with (first | (go_at_call 9; refine HM.out.mono ?_; rintro e w1 ⟨rfl, he⟩; rw [he]; clear he w1) | (go_at_call 10; refine HA.out.mono ?_; rintro e w2 ⟨rfl, o2⟩))
    go_ret
    exact ⟨rfl, o2.all⟩
  | true =>
    obtain ⟨k, rfl, hk1, hk2⟩ : ∃ k : Nat, n = (k : Int) ∧ 1 ≤ k ∧ k ≤ 4096 := by
      unfold newB at hB
      simp at hB
      exact ⟨n.toNat, by omega, by omega, by omega⟩
    by_cases h24 : 24 < k
    · have HM := hid_mk (made_great hT k h24 hk2)
      have HA : Hid (∀ W, Out 0 0 w W → Calls Tryz.prog 10 #[] W fun e w' => e = .returned (.bool true) ∧ Out 0 0 W w') := fun W o => alive_any (hT.quiet o)
      clear hB hT hk1 hk2 h24
      go_enter Tryz.func3, Tryz.ntmps3
      go_wp2_with fail
      refine HM.out.mono ?_
      rintro e w1 ⟨rfl, o1⟩
      go_wp2_with fail
      refine (HA.out _ o1).mono ?_
      rintro e w2 ⟨rfl, o2⟩
      go_wp2
      go_ret
      exact ⟨rfl, (o1.trans o2).all⟩
    · have HM := hid_mk (made_yes hT k hk1 (by omega))
      have HA : Hid (∀ W, Out 0 0 w W → Calls Tryz.prog 10 #[] W fun e w' => e = .returned (.bool true) ∧ Out 0 0 W w') := fun W o => alive_any (hT.quiet o)
      have HK : Hid (1 ≤ k ∧ k ≤ 24) := ⟨hk1, by omega⟩
      clear hB hT hk1 hk2 h24
      go_enter Tryz.func3, Tryz.ntmps3
      go_wp2_with fail
      refine HM.out.mono ?_
      rintro e w1 ⟨b, s, sr, cap, m, rfl, h1, h2, h3, h4, o1⟩
      have hlm : w.heap.size ≤ m := by have q := h1.1.inn 0 (by omega); omega
      have hmb : m ≤ b := by have q := h2.inn 0 (by omega); omega
      have P1 := ps_new h1 h2 h3 h4 ⟨hlm, hmb⟩ HK.out.2
      have HP := hid_mk P1
      have HB : Hid (w.heap.size ≤ b ∧ Out 0 0 w w1 ∧ w1.heap.size = b + 1) := ⟨by omega, o1, h4⟩
      clear h1 h2 h3 h4 hlm hmb P1 o1 HM
      go_wp2_with fail
      refine (HA.out _ HB.out.2.1).mono ?_
      rintro e w2 ⟨rfl, o2⟩
      have H19 := hid_mk (looked19_any (HP.out.quiet o2) (v := 0) (by rw [used_bare (bare_new k)]; exact use_zero24 HK.out.1 HK.out.2) order_zero 0 0 0 0 none 0 0)
      have HO2 := hid_mk o2
      clear o2 HA
      go_wp2_with fail
      refine H19.out.mono ?_
      rintro e w3 ⟨rfl, o3⟩
      have HWh := hid_mk (whole_any ((HP.out.quiet HO2.out).quiet o3) (by omega))
      have HO3 := hid_mk (HO2.out.trans o3)
      clear o3 H19 HO2
      go_wp2_with fail
      refine HWh.out.mono ?_
      rintro e w4 ⟨rfl, col', _, f4⟩
      have FIN : Hid (Below w.heap.size w w4) := by
        refine (HB.out.2.1.trans HO3.out).all.trans ?_
        have hs := f4.1
        refine ⟨hs.1, hs.2.1, hs.2.2.1, hs.size, fun j hj => hs.2.2.2.2 j ?_ (fun q => q ?_)⟩
        · have := (HB.out.2.1.trans HO3.out).size; omega
        · show (if j = b then 0 else 7) = 7
          rw [if_neg (by have := HB.out.1; omega)]
      clear f4 HWh
      go_wp2
      go_ret
      exact ⟨rfl, FIN.out⟩
end Go.Proofs.YtjbbkeoolodeaaaGreatDoor
