import Derived.Test.YtjbbkeoolodeaaaGreatDoorG27
import Derived.Test.YtjbbkeoolodeaaaGreatDoorG28
import Derived.Test.YtjbbkeoolodeaaaGreatDoorG29
import Derived.Test.YtjbbkeoolodeaaaGreatDoorG38
import Derived.Test.YtjbbkeoolodeaaaGreatDoorG25
namespace Go.Proofs.YtjbbkeoolodeaaaGreatDoor
open Go.RowKit
set_option linter.unusedVariables false
set_option linter.unusedSimpArgs false

/-- apart: i words and pages, k lists of objects are marked -/
def ASt (B b : Nat) (V : Nat → Value) (X : Nat → List Value) (C : Nat → Nat → Nat × (Nat → Nat → Int)) (col : Nat → Nat) (w : World) (F0 F1 F2 : Nat) (wr : World) (i k : Nat) : Prop :=
  ∃ V' X' col' p', Kp B wr b V' X' C col' none p' ∧ (p' 0 ≤ i ∧ p' 1 ≤ i ∧ p' 2 ≤ k) ∧ (∀ j, j < 8 → V' j = V j ∧ X' j = X j) ∧ (((X' 8).length = F0 + 8 * i ∧ (X' 11).length = F0 + 8 * i) ∧ ((X' 9).length = F1 + 8 * i ∧ (X' 12).length = F1 + 8 * i) ∧ ((X' 10).length = F2 + 8 * k ∧ (X' 13).length = F2 + 8 * k)) ∧ Fix col col' w wr
set_option maxRecDepth 100000 in
set_option maxHeartbeats 16000000 in
theorem apart_any {B b : Nat} {w : World} {V : Nat → Value} {X : Nat → List Value} {C : Nat → Nat → Nat × (Nat → Nat → Int)} {col : Nat → Nat} {N0 N2 F0 F1 F2 : Nat}
    (h : Kp B w b V X C col none (fun _ => 0)) (hl : Lens X N0 N2 F0 F1 F2) (hN : N0 ≤ 40 ∧ N2 ≤ 40 ∧ F0 ≤ 7000 ∧ F1 ≤ 7000 ∧ F2 ≤ 7000) :
    Calls Tryz.prog 39 #[.pointer (some ⟨b, 2, none⟩)] w fun e w' => e = .returned (.bool true) ∧ ASt B b V X C col w F0 F1 F2 w' N0 N2 := by
  obtain ⟨⟨l2, l3, l4, l5, l6, l7⟩, lf0, lf1, lf2⟩ := hl
  obtain ⟨aS2, cS2, eS2, rS2⟩ := row_open (h.own 2 (by omega) (by omega))
  have z2 := h.cell 2 (by omega)
  rw [l2] at eS2 rS2
  rw [eS2] at z2
  have HZ2 := hid_mk z2
  have HR2 := hid_mk rS2
  have HE2 := hid_mk eS2
  have HL2 := hid_mk l2
  clear z2 rS2 eS2 l2
  obtain ⟨aS3, cS3, eS3, rS3⟩ := row_open (h.own 3 (by omega) (by omega))
  have z3 := h.cell 3 (by omega)
  rw [l3] at eS3 rS3
  rw [eS3] at z3
  have HZ3 := hid_mk z3
  have HR3 := hid_mk rS3
  have HE3 := hid_mk eS3
  have HL3 := hid_mk l3
  clear z3 rS3 eS3 l3
  obtain ⟨aS4, cS4, eS4, rS4⟩ := row_open (h.own 4 (by omega) (by omega))
  have z4 := h.cell 4 (by omega)
  rw [l4] at eS4 rS4
  rw [eS4] at z4
  have HZ4 := hid_mk z4
  have HR4 := hid_mk rS4
  have HE4 := hid_mk eS4
  have HL4 := hid_mk l4
  clear z4 rS4 eS4 l4
  obtain ⟨aS5, cS5, eS5, rS5⟩ := row_open (h.own 5 (by omega) (by omega))
  have z5 := h.cell 5 (by omega)
  rw [l5] at eS5 rS5
  rw [eS5] at z5
  have HZ5 := hid_mk z5
  have HR5 := hid_mk rS5
  have HE5 := hid_mk eS5
  have HL5 := hid_mk l5
  clear z5 rS5 eS5 l5
  obtain ⟨aS6, cS6, eS6, rS6⟩ := row_open (h.own 6 (by omega) (by omega))
  have z6 := h.cell 6 (by omega)
  rw [l6] at eS6 rS6
  rw [eS6] at z6
  have HZ6 := hid_mk z6
  have HR6 := hid_mk rS6
  have HE6 := hid_mk eS6
  have HL6 := hid_mk l6
  clear z6 rS6 eS6 l6
  obtain ⟨aS7, cS7, eS7, rS7⟩ := row_open (h.own 7 (by omega) (by omega))
  have z7 := h.cell 7 (by omega)
  rw [l7] at eS7 rS7
  rw [eS7] at z7
  have HZ7 := hid_mk z7
  have HR7 := hid_mk rS7
  have HE7 := hid_mk eS7
  have HL7 := hid_mk l7
  clear z7 rS7 eS7 l7
  have HK := hid_mk h
  have HF := hid_mk (And.intro lf0 (And.intro lf1 lf2))
  have HN := hid_mk hN
  have n2 : (N0 : Int) ≤ 40 := by omega
  have n3 : (N2 : Int) ≤ 40 := by omega
  clear h lf0 lf1 lf2 hN
  go_enter Tryz.func39, Tryz.ntmps39
  go_wp2_with fail
  go_loopw [3] (fun y wr => ∃ i : Nat, i ≤ N0 ∧ y = .int .i64 (i : Int) ∧ Out 0 0 w wr) (fun y _ => N0 - (intOf y).toNat)
  case atStart => exact ⟨0, Nat.zero_le _, rfl, Out.refl _ _ _⟩
  case round =>
    obtain ⟨i, i1, rfl, ho⟩ := hrel
    have HO := hid_mk ho
    have d2 := ho.cell HZ2.out (.inr (Nat.zero_le _))
    have b0 : (0 : Int) ≤ (i : Int) := by omega
    by_cases hi : i < N0
    · have b1 : (i : Int) < (N0 : Int) := by omega
      have d3 := ho.cell HZ3.out (.inr (Nat.zero_le _))
      have d4 := ho.cell HZ4.out (.inr (Nat.zero_le _))
      have d5 := ho.cell HZ5.out (.inr (Nat.zero_le _))
      obtain ⟨g2, rfl, r2⟩ := HR2.out (by omega)
      obtain ⟨v2, h2⟩ : ∃ v, (X 2)[i]? = some v := ⟨_, List.getElem?_eq_getElem (by have := HL2.out; omega)⟩
      obtain ⟨g3, rfl, r3⟩ := HR3.out (by omega)
      obtain ⟨v3, h3⟩ : ∃ v, (X 3)[i]? = some v := ⟨_, List.getElem?_eq_getElem (by have := HL3.out; omega)⟩
      obtain ⟨g4, rfl, r4⟩ := HR4.out (by omega)
      obtain ⟨v4, h4⟩ : ∃ v, (X 4)[i]? = some v := ⟨_, List.getElem?_eq_getElem (by have := HL4.out; omega)⟩
      obtain ⟨g5, rfl, r5⟩ := HR5.out (by omega)
      obtain ⟨v5, h5⟩ : ∃ v, (X 5)[i]? = some v := ⟨_, List.getElem?_eq_getElem (by have := HL5.out; omega)⟩
      have q2 := HK.out.lf 0 i v2 (by omega) (Nat.zero_le _) h2
      have q3 := HK.out.wr 0 i v3 (by omega) h3
      have q4 := HK.out.lf 1 i v4 (by omega) (Nat.zero_le _) h4
      have q5 := HK.out.wr 1 i v5 (by omega) h5
      obtain ⟨a2, c2, rfl⟩ := OwnF.shape (t := 0) q2.1
      obtain ⟨a3, c3, e3, r3'⟩ := id q3
      subst e3
      obtain ⟨a4, c4, rfl⟩ := OwnF.shape (t := 1) q4.1
      obtain ⟨a5, c5, e5, r5'⟩ := id q5
      subst e5
      clear r3' r5'
      have e2 := ho.cell (r2 i _ h2) (.inr (Nat.zero_le _))
      have e3 := ho.cell (r3 i _ h3) (.inr (Nat.zero_le _))
      have e4 := ho.cell (r4 i _ h4) (.inr (Nat.zero_le _))
      have e5 := ho.cell (r5 i _ h5) (.inr (Nat.zero_le _))
      have HS0 : Hid (∀ W, Out 0 0 w W → Calls Tryz.prog 77 #[.slice a2 (C 0 i).1 c2, .slice a3 (C 0 i).1 c3] W fun e w' => e = .returned (.bool true) ∧ Out 0 0 W w') := fun W o => sameInts_any ((OwnF.el (t := 0) q2.1).quiet o) (q3.el.quiet o) (by have := q2.2.1; omega)
      have HS1 : Hid (∀ W, Out 0 0 w W → Calls Tryz.prog 78 #[.slice a4 (C 1 i).1 c4, .slice a5 (C 1 i).1 c5] W fun e w' => e = .returned (.bool true) ∧ Out 0 0 W w') := fun W o => samePages_any ((OwnF.el (t := 1) q4.1).quiet o) (q5.el.quiet o) (by have := q4.2.1; omega)
      clear q2 q3 q4 q5 h2 h3 h4 h5 r2 r3 r4 r5
      generalize (C 0 i).1 = m0 at *
      generalize (C 1 i).1 = m1 at *
      clear ho
      go_wp2_with fail
      refine wp_region_held_drew (S := fun w' => w'.cell? ⟨b, 2, none⟩ = some (.slice (some ⟨g2, 0, none⟩) N0 cS2) ∧ w'.cell? ⟨g2, i, none⟩ = some (.slice a2 m0 c2) ∧ w'.cell? ⟨b, 3, none⟩ = some (.slice (some ⟨g3, 0, none⟩) N0 cS3) ∧ w'.cell? ⟨g3, i, none⟩ = some (.slice a3 m0 c3) ∧ w'.cell? ⟨b, 4, none⟩ = some (.slice (some ⟨g4, 0, none⟩) N0 cS4) ∧ w'.cell? ⟨g4, i, none⟩ = some (.slice a4 m1 c4) ∧ w'.cell? ⟨b, 5, none⟩ = some (.slice (some ⟨g5, 0, none⟩) N0 cS5) ∧ w'.cell? ⟨g5, i, none⟩ = some (.slice a5 m1 c5) ∧ Out 0 0 w w') (by kernel_rfl) ?hS1 (fun hHeld => ?rest1)
      case hS1 => exact ⟨d2, e2, d3, e3, d4, e4, d5, e5, HO.out.drew⟩
      refine wpAnyH_take (i := 0) (v := ?v2) rfl (by kernel_rfl) (by kernel_rfl) (by kernel_rfl) (fun _ _ _ h => h) (Or.inl ⟨by rfl, ?hy2⟩) (by assumption) ?rest2
      case hy2 => (intro w hSw; (try dsimp only at hSw); simp only [List.getElem_toArray, List.getElem_cons_zero, List.getElem_cons_succ]; go_simp; (try with_reducible rfl))
      (try simp only [Act.put, List.getElem_toArray, List.getElem_cons_zero, List.getElem_cons_succ, List.setIfInBounds_toArray, List.set_cons_zero, List.set_cons_succ])
      refine wpAnyH_take (i := 1) (v := ?v3) rfl (by kernel_rfl) (by kernel_rfl) (by kernel_rfl) (fun _ _ _ h => h) (Or.inl ⟨by rfl, ?hy3⟩) (by assumption) ?rest3
      case hy3 => (intro w hSw; (try dsimp only at hSw); simp only [List.getElem_toArray, List.getElem_cons_zero, List.getElem_cons_succ]; go_simp; (try with_reducible rfl))
      (try simp only [Act.put, List.getElem_toArray, List.getElem_cons_zero, List.getElem_cons_succ, List.setIfInBounds_toArray, List.set_cons_zero, List.set_cons_succ])
      refine wpAnyH_take (i := 2) (v := ?v4) rfl (by kernel_rfl) (by kernel_rfl) (by kernel_rfl) (fun _ _ _ h => h) (Or.inl ⟨by rfl, ?hy4⟩) (by assumption) ?rest4
      case hy4 => (intro w hSw; (try dsimp only at hSw); simp only [List.getElem_toArray, List.getElem_cons_zero, List.getElem_cons_succ]; go_simp; (try with_reducible rfl))
      (try simp only [Act.put, List.getElem_toArray, List.getElem_cons_zero, List.getElem_cons_succ, List.setIfInBounds_toArray, List.set_cons_zero, List.set_cons_succ])
      refine wpAnyH_take (i := 3) (v := ?v5) rfl (by kernel_rfl) (by kernel_rfl) (by kernel_rfl) (fun _ _ _ h => h) (Or.inl ⟨by rfl, ?hy5⟩) (by assumption) ?rest5
      case hy5 => (intro w hSw; (try dsimp only at hSw); simp only [List.getElem_toArray, List.getElem_cons_zero, List.getElem_cons_succ]; go_simp; (try with_reducible rfl))
      (try simp only [Act.put, List.getElem_toArray, List.getElem_cons_zero, List.getElem_cons_succ, List.setIfInBounds_toArray, List.set_cons_zero, List.set_cons_succ])
      refine wpAnyH_take (i := 4) (v := ?v6) rfl (by kernel_rfl) (by kernel_rfl) (by kernel_rfl) (fun _ _ _ h => h) (Or.inl ⟨by rfl, ?hy6⟩) (by assumption) ?rest6
      case hy6 => (intro w hSw; (try dsimp only at hSw); simp only [List.getElem_toArray, List.getElem_cons_zero, List.getElem_cons_succ]; go_simp; (try with_reducible rfl))
      (try simp only [Act.put, List.getElem_toArray, List.getElem_cons_zero, List.getElem_cons_succ, List.setIfInBounds_toArray, List.set_cons_zero, List.set_cons_succ])
      refine wpAnyH_take (i := 5) (v := ?v7) rfl (by kernel_rfl) (by kernel_rfl) (by kernel_rfl) (fun _ _ _ h => h) (Or.inl ⟨by rfl, ?hy7⟩) (by assumption) ?rest7
      case hy7 => (intro w hSw; (try dsimp only at hSw); simp only [List.getElem_toArray, List.getElem_cons_zero, List.getElem_cons_succ]; go_simp; (try with_reducible rfl))
      (try simp only [Act.put, List.getElem_toArray, List.getElem_cons_zero, List.getElem_cons_succ, List.setIfInBounds_toArray, List.set_cons_zero, List.set_cons_succ])
      refine wpAnyH_take (i := 6) (v := ?v8) rfl (by kernel_rfl) (by kernel_rfl) (by kernel_rfl) (fun _ _ _ h => h) (Or.inl ⟨by rfl, ?hy8⟩) (by assumption) ?rest8
      case hy8 => (intro w hSw; (try dsimp only at hSw); simp only [List.getElem_toArray, List.getElem_cons_zero, List.getElem_cons_succ]; go_simp; (try with_reducible rfl))
      (try simp only [Act.put, List.getElem_toArray, List.getElem_cons_zero, List.getElem_cons_succ, List.setIfInBounds_toArray, List.set_cons_zero, List.set_cons_succ])
      refine wpAnyH_take (i := 7) (v := ?v9) rfl (by kernel_rfl) (by kernel_rfl) (by kernel_rfl) (fun _ _ _ h => h) (Or.inl ⟨by rfl, ?hy9⟩) (by assumption) ?rest9
      case hy9 => (intro w hSw; (try dsimp only at hSw); simp only [List.getElem_toArray, List.getElem_cons_zero, List.getElem_cons_succ]; go_simp; (try with_reducible rfl))
      (try simp only [Act.put, List.getElem_toArray, List.getElem_cons_zero, List.getElem_cons_succ, List.setIfInBounds_toArray, List.set_cons_zero, List.set_cons_succ])
      refine wpAnyH_take (i := 8) (v := ?v10) rfl (by kernel_rfl) (by kernel_rfl) (by kernel_rfl) (fun _ _ _ h => h) (Or.inl ⟨by rfl, ?hy10⟩) (by assumption) ?rest10
      case hy10 => (intro w hSw; (try dsimp only at hSw); simp only [List.getElem_toArray, List.getElem_cons_zero, List.getElem_cons_succ]; go_simp; (try with_reducible rfl))
      (try simp only [Act.put, List.getElem_toArray, List.getElem_cons_zero, List.getElem_cons_succ, List.setIfInBounds_toArray, List.set_cons_zero, List.set_cons_succ])
      refine wpAnyH_take (i := 9) (v := ?v11) rfl (by kernel_rfl) (by kernel_rfl) (by kernel_rfl) (fun _ _ _ h => h) (Or.inl ⟨by rfl, ?hy11⟩) (by assumption) ?rest11
      case hy11 => (intro w hSw; (try dsimp only at hSw); simp only [List.getElem_toArray, List.getElem_cons_zero, List.getElem_cons_succ]; go_simp; (try with_reducible rfl))
      (try simp only [Act.put, List.getElem_toArray, List.getElem_cons_zero, List.getElem_cons_succ, List.setIfInBounds_toArray, List.set_cons_zero, List.set_cons_succ])
      refine wpAnyH_take (i := 10) (v := ?v12) rfl (by kernel_rfl) (by kernel_rfl) (by kernel_rfl) (fun _ _ _ h => h) (Or.inl ⟨by rfl, ?hy12⟩) (by assumption) ?rest12
      case hy12 => (intro w hSw; (try dsimp only at hSw); simp only [List.getElem_toArray, List.getElem_cons_zero, List.getElem_cons_succ]; go_simp; (try with_reducible rfl))
      (try simp only [Act.put, List.getElem_toArray, List.getElem_cons_zero, List.getElem_cons_succ, List.setIfInBounds_toArray, List.set_cons_zero, List.set_cons_succ])
      refine wpAnyH_take (i := 11) (v := ?v13) rfl (by kernel_rfl) (by kernel_rfl) (by kernel_rfl) (fun _ _ _ h => h) (Or.inl ⟨by rfl, ?hy13⟩) (by assumption) ?rest13
      case hy13 => (intro w hSw; (try dsimp only at hSw); simp only [List.getElem_toArray, List.getElem_cons_zero, List.getElem_cons_succ]; go_simp; (try with_reducible rfl))
      (try simp only [Act.put, List.getElem_toArray, List.getElem_cons_zero, List.getElem_cons_succ, List.setIfInBounds_toArray, List.set_cons_zero, List.set_cons_succ])
      refine wpAnyH_take (i := 12) (v := ?v14) rfl (by kernel_rfl) (by kernel_rfl) (by kernel_rfl) (fun _ _ _ h => h) (Or.inl ⟨by rfl, ?hy14⟩) (by assumption) ?rest14
      case hy14 => (intro w hSw; (try dsimp only at hSw); simp only [List.getElem_toArray, List.getElem_cons_zero, List.getElem_cons_succ]; go_simp; (try with_reducible rfl))
      (try simp only [Act.put, List.getElem_toArray, List.getElem_cons_zero, List.getElem_cons_succ, List.setIfInBounds_toArray, List.set_cons_zero, List.set_cons_succ])
      refine wpAnyH_take (i := 13) (v := ?v15) rfl (by kernel_rfl) (by kernel_rfl) (by kernel_rfl) (fun _ _ _ h => h) (Or.inl ⟨by rfl, ?hy15⟩) (by assumption) ?rest15
      case hy15 => (intro w hSw; (try dsimp only at hSw); simp only [List.getElem_toArray, List.getElem_cons_zero, List.getElem_cons_succ]; go_simp; (try with_reducible rfl))
      (try simp only [Act.put, List.getElem_toArray, List.getElem_cons_zero, List.getElem_cons_succ, List.setIfInBounds_toArray, List.set_cons_zero, List.set_cons_succ])
      refine wpAnyH_ready (rs := [14]) (by kernel_rfl) (by simp) ?_
      refine AllReadyH.cons rfl (fun KK hK => ?_) AllReadyH.nil
      simp only [List.getElem_toArray, List.getElem_cons_zero, List.getElem_cons_succ]
      go_simp
      refine (HS0.out _ hHeld.2.2.2.2.2.2.2.2).mono ?_
      rintro e V14 ⟨rfl, q14⟩
      refine hK.out _ _ ?hS16 (fun hHeld2 => ?rest16)
      case hS16 => exact ⟨q14.cell hHeld.1 (.inr (Nat.zero_le _)), q14.cell hHeld.2.1 (.inr (Nat.zero_le _)), q14.cell hHeld.2.2.1 (.inr (Nat.zero_le _)), q14.cell hHeld.2.2.2.1 (.inr (Nat.zero_le _)), q14.cell hHeld.2.2.2.2.1 (.inr (Nat.zero_le _)), q14.cell hHeld.2.2.2.2.2.1 (.inr (Nat.zero_le _)), q14.cell hHeld.2.2.2.2.2.2.1 (.inr (Nat.zero_le _)), q14.cell hHeld.2.2.2.2.2.2.2.1 (.inr (Nat.zero_le _)), hHeld.2.2.2.2.2.2.2.2.trans q14⟩
      clear hK KK
      (try clear hHeld)
      have hHeld := hHeld2
      clear hHeld2
      (try simp only [Act.put, List.getElem_toArray, List.getElem_cons_zero, List.getElem_cons_succ, List.setIfInBounds_toArray, List.set_cons_zero, List.set_cons_succ])
      refine wpAnyH_take (i := 15) (v := ?v17) rfl (by kernel_rfl) (by kernel_rfl) (by kernel_rfl) (fun _ _ _ h => h) (Or.inl ⟨by rfl, ?hy17⟩) (by assumption) ?rest17
      case hy17 => (intro w hSw; (try dsimp only at hSw); simp only [List.getElem_toArray, List.getElem_cons_zero, List.getElem_cons_succ]; go_simp; (try with_reducible rfl))
      (try simp only [Act.put, List.getElem_toArray, List.getElem_cons_zero, List.getElem_cons_succ, List.setIfInBounds_toArray, List.set_cons_zero, List.set_cons_succ])
      refine wpAnyH_take (i := 16) (v := ?v18) rfl (by kernel_rfl) (by kernel_rfl) (by kernel_rfl) (fun _ _ _ h => h) (Or.inl ⟨by rfl, ?hy18⟩) (by assumption) ?rest18
      case hy18 => (intro w hSw; (try dsimp only at hSw); simp only [List.getElem_toArray, List.getElem_cons_zero, List.getElem_cons_succ]; go_simp; (try with_reducible rfl))
      (try simp only [Act.put, List.getElem_toArray, List.getElem_cons_zero, List.getElem_cons_succ, List.setIfInBounds_toArray, List.set_cons_zero, List.set_cons_succ])
      refine wpAnyH_take (i := 17) (v := ?v19) rfl (by kernel_rfl) (by kernel_rfl) (by kernel_rfl) (fun _ _ _ h => h) (Or.inl ⟨by rfl, ?hy19⟩) (by assumption) ?rest19
      case hy19 => (intro w hSw; (try dsimp only at hSw); simp only [List.getElem_toArray, List.getElem_cons_zero, List.getElem_cons_succ]; go_simp; (try with_reducible rfl))
      (try simp only [Act.put, List.getElem_toArray, List.getElem_cons_zero, List.getElem_cons_succ, List.setIfInBounds_toArray, List.set_cons_zero, List.set_cons_succ])
      refine wpAnyH_take (i := 18) (v := ?v20) rfl (by kernel_rfl) (by kernel_rfl) (by kernel_rfl) (fun _ _ _ h => h) (Or.inl ⟨by rfl, ?hy20⟩) (by assumption) ?rest20
      case hy20 => (intro w hSw; (try dsimp only at hSw); simp only [List.getElem_toArray, List.getElem_cons_zero, List.getElem_cons_succ]; go_simp; (try with_reducible rfl))
      (try simp only [Act.put, List.getElem_toArray, List.getElem_cons_zero, List.getElem_cons_succ, List.setIfInBounds_toArray, List.set_cons_zero, List.set_cons_succ])
      refine wpAnyH_take (i := 19) (v := ?v21) rfl (by kernel_rfl) (by kernel_rfl) (by kernel_rfl) (fun _ _ _ h => h) (Or.inl ⟨by rfl, ?hy21⟩) (by assumption) ?rest21
      case hy21 => (intro w hSw; (try dsimp only at hSw); simp only [List.getElem_toArray, List.getElem_cons_zero, List.getElem_cons_succ]; go_simp; (try with_reducible rfl))
      (try simp only [Act.put, List.getElem_toArray, List.getElem_cons_zero, List.getElem_cons_succ, List.setIfInBounds_toArray, List.set_cons_zero, List.set_cons_succ])
      refine wpAnyH_take (i := 20) (v := ?v22) rfl (by kernel_rfl) (by kernel_rfl) (by kernel_rfl) (fun _ _ _ h => h) (Or.inl ⟨by rfl, ?hy22⟩) (by assumption) ?rest22
      case hy22 => (intro w hSw; (try dsimp only at hSw); simp only [List.getElem_toArray, List.getElem_cons_zero, List.getElem_cons_succ]; go_simp; (try with_reducible rfl))
      (try simp only [Act.put, List.getElem_toArray, List.getElem_cons_zero, List.getElem_cons_succ, List.setIfInBounds_toArray, List.set_cons_zero, List.set_cons_succ])
      refine wpAnyH_take (i := 21) (v := ?v23) rfl (by kernel_rfl) (by kernel_rfl) (by kernel_rfl) (fun _ _ _ h => h) (Or.inl ⟨by rfl, ?hy23⟩) (by assumption) ?rest23
      case hy23 => (intro w hSw; (try dsimp only at hSw); simp only [List.getElem_toArray, List.getElem_cons_zero, List.getElem_cons_succ]; go_simp; (try with_reducible rfl))
      (try simp only [Act.put, List.getElem_toArray, List.getElem_cons_zero, List.getElem_cons_succ, List.setIfInBounds_toArray, List.set_cons_zero, List.set_cons_succ])
      refine wpAnyH_take (i := 22) (v := ?v24) rfl (by kernel_rfl) (by kernel_rfl) (by kernel_rfl) (fun _ _ _ h => h) (Or.inl ⟨by rfl, ?hy24⟩) (by assumption) ?rest24
      case hy24 => (intro w hSw; (try dsimp only at hSw); simp only [List.getElem_toArray, List.getElem_cons_zero, List.getElem_cons_succ]; go_simp; (try with_reducible rfl))
      (try simp only [Act.put, List.getElem_toArray, List.getElem_cons_zero, List.getElem_cons_succ, List.setIfInBounds_toArray, List.set_cons_zero, List.set_cons_succ])
      refine wpAnyH_take (i := 23) (v := ?v25) rfl (by kernel_rfl) (by kernel_rfl) (by kernel_rfl) (fun _ _ _ h => h) (Or.inl ⟨by rfl, ?hy25⟩) (by assumption) ?rest25
      case hy25 => (intro w hSw; (try dsimp only at hSw); simp only [List.getElem_toArray, List.getElem_cons_zero, List.getElem_cons_succ]; go_simp; (try with_reducible rfl))
      (try simp only [Act.put, List.getElem_toArray, List.getElem_cons_zero, List.getElem_cons_succ, List.setIfInBounds_toArray, List.set_cons_zero, List.set_cons_succ])
      refine wpAnyH_take (i := 24) (v := ?v26) rfl (by kernel_rfl) (by kernel_rfl) (by kernel_rfl) (fun _ _ _ h => h) (Or.inl ⟨by rfl, ?hy26⟩) (by assumption) ?rest26
      case hy26 => (intro w hSw; (try dsimp only at hSw); simp only [List.getElem_toArray, List.getElem_cons_zero, List.getElem_cons_succ]; go_simp; (try with_reducible rfl))
      (try simp only [Act.put, List.getElem_toArray, List.getElem_cons_zero, List.getElem_cons_succ, List.setIfInBounds_toArray, List.set_cons_zero, List.set_cons_succ])
      refine wpAnyH_take (i := 25) (v := ?v27) rfl (by kernel_rfl) (by kernel_rfl) (by kernel_rfl) (fun _ _ _ h => h) (Or.inl ⟨by rfl, ?hy27⟩) (by assumption) ?rest27
      case hy27 => (intro w hSw; (try dsimp only at hSw); simp only [List.getElem_toArray, List.getElem_cons_zero, List.getElem_cons_succ]; go_simp; (try with_reducible rfl))
      (try simp only [Act.put, List.getElem_toArray, List.getElem_cons_zero, List.getElem_cons_succ, List.setIfInBounds_toArray, List.set_cons_zero, List.set_cons_succ])
      refine wpAnyH_take (i := 26) (v := ?v28) rfl (by kernel_rfl) (by kernel_rfl) (by kernel_rfl) (fun _ _ _ h => h) (Or.inl ⟨by rfl, ?hy28⟩) (by assumption) ?rest28
      case hy28 => (intro w hSw; (try dsimp only at hSw); simp only [List.getElem_toArray, List.getElem_cons_zero, List.getElem_cons_succ]; go_simp; (try with_reducible rfl))
      (try simp only [Act.put, List.getElem_toArray, List.getElem_cons_zero, List.getElem_cons_succ, List.setIfInBounds_toArray, List.set_cons_zero, List.set_cons_succ])
      refine wpAnyH_take (i := 27) (v := ?v29) rfl (by kernel_rfl) (by kernel_rfl) (by kernel_rfl) (fun _ _ _ h => h) (Or.inl ⟨by rfl, ?hy29⟩) (by assumption) ?rest29
      case hy29 => (intro w hSw; (try dsimp only at hSw); simp only [List.getElem_toArray, List.getElem_cons_zero, List.getElem_cons_succ]; go_simp; (try with_reducible rfl))
      (try simp only [Act.put, List.getElem_toArray, List.getElem_cons_zero, List.getElem_cons_succ, List.setIfInBounds_toArray, List.set_cons_zero, List.set_cons_succ])
      refine wpAnyH_take (i := 28) (v := ?v30) rfl (by kernel_rfl) (by kernel_rfl) (by kernel_rfl) (fun _ _ _ h => h) (Or.inl ⟨by rfl, ?hy30⟩) (by assumption) ?rest30
      case hy30 => (intro w hSw; (try dsimp only at hSw); simp only [List.getElem_toArray, List.getElem_cons_zero, List.getElem_cons_succ]; go_simp; (try with_reducible rfl))
      (try simp only [Act.put, List.getElem_toArray, List.getElem_cons_zero, List.getElem_cons_succ, List.setIfInBounds_toArray, List.set_cons_zero, List.set_cons_succ])
      refine wpAnyH_take (i := 29) (v := ?v31) rfl (by kernel_rfl) (by kernel_rfl) (by kernel_rfl) (fun _ _ _ h => h) (Or.inl ⟨by rfl, ?hy31⟩) (by assumption) ?rest31
      case hy31 => (intro w hSw; (try dsimp only at hSw); simp only [List.getElem_toArray, List.getElem_cons_zero, List.getElem_cons_succ]; go_simp; (try with_reducible rfl))
      (try simp only [Act.put, List.getElem_toArray, List.getElem_cons_zero, List.getElem_cons_succ, List.setIfInBounds_toArray, List.set_cons_zero, List.set_cons_succ])
      refine wpAnyH_take (i := 30) (v := ?v32) rfl (by kernel_rfl) (by kernel_rfl) (by kernel_rfl) (fun _ _ _ h => h) (Or.inl ⟨by rfl, ?hy32⟩) (by assumption) ?rest32
      case hy32 => (intro w hSw; (try dsimp only at hSw); simp only [List.getElem_toArray, List.getElem_cons_zero, List.getElem_cons_succ]; go_simp; (try with_reducible rfl))
      (try simp only [Act.put, List.getElem_toArray, List.getElem_cons_zero, List.getElem_cons_succ, List.setIfInBounds_toArray, List.set_cons_zero, List.set_cons_succ])
      refine wpAnyH_ready (rs := [31]) (by kernel_rfl) (by simp) ?_
      refine AllReadyH.cons rfl (fun KK hK => ?_) AllReadyH.nil
      simp only [List.getElem_toArray, List.getElem_cons_zero, List.getElem_cons_succ]
      go_simp
      refine (HS1.out _ hHeld.2.2.2.2.2.2.2.2).mono ?_
      rintro e V31 ⟨rfl, q31⟩
      refine hK.out _ _ ?hS33 (fun hHeld2 => ?rest33)
      case hS33 => exact ⟨q31.cell hHeld.1 (.inr (Nat.zero_le _)), q31.cell hHeld.2.1 (.inr (Nat.zero_le _)), q31.cell hHeld.2.2.1 (.inr (Nat.zero_le _)), q31.cell hHeld.2.2.2.1 (.inr (Nat.zero_le _)), q31.cell hHeld.2.2.2.2.1 (.inr (Nat.zero_le _)), q31.cell hHeld.2.2.2.2.2.1 (.inr (Nat.zero_le _)), q31.cell hHeld.2.2.2.2.2.2.1 (.inr (Nat.zero_le _)), q31.cell hHeld.2.2.2.2.2.2.2.1 (.inr (Nat.zero_le _)), hHeld.2.2.2.2.2.2.2.2.trans q31⟩
      clear hK KK
      (try clear hHeld)
      have hHeld := hHeld2
      clear hHeld2
      (try simp only [Act.put, List.getElem_toArray, List.getElem_cons_zero, List.getElem_cons_succ, List.setIfInBounds_toArray, List.set_cons_zero, List.set_cons_succ])
      refine wpAnyH_take (i := 32) (v := ?v34) rfl (by kernel_rfl) (by kernel_rfl) (by kernel_rfl) (fun _ _ _ h => h) (Or.inl ⟨by rfl, ?hy34⟩) (by assumption) ?rest34
      case hy34 => (intro w hSw; (try dsimp only at hSw); simp only [List.getElem_toArray, List.getElem_cons_zero, List.getElem_cons_succ]; go_simp; (try with_reducible rfl))
      (try simp only [Act.put, List.getElem_toArray, List.getElem_cons_zero, List.getElem_cons_succ, List.setIfInBounds_toArray, List.set_cons_zero, List.set_cons_succ])
      refine wpAnyH_take (i := 33) (v := ?v35) rfl (by kernel_rfl) (by kernel_rfl) (by kernel_rfl) (fun _ _ _ h => h) (Or.inl ⟨by rfl, ?hy35⟩) (by assumption) ?rest35
      case hy35 => (intro w hSw; (try dsimp only at hSw); simp only [List.getElem_toArray, List.getElem_cons_zero, List.getElem_cons_succ]; go_simp; (try with_reducible rfl))
      (try simp only [Act.put, List.getElem_toArray, List.getElem_cons_zero, List.getElem_cons_succ, List.setIfInBounds_toArray, List.set_cons_zero, List.set_cons_succ])
      refine wpAnyH_done (by kernel_rfl) ?_ _
      have hE := hHeld.2.2.2.2.2.2.2.2
      clear hHeld
      go_wp2
      all_goals go_roundw
      case rel => exact ⟨i + 1, by omega, by go_num, hE⟩
      case measure => simp [intOf]; omega
    · have : N0 = i := by omega
      subst this
      clear ho hi
      go_wp2_with fail
      clear d2 b0 i1
      go_loopw [4] (fun y wr => ∃ i : Nat, i ≤ N2 ∧ y = .int .i64 (i : Int) ∧ Out 0 0 w wr) (fun y _ => N2 - (intOf y).toNat)
      case atStart => exact ⟨0, Nat.zero_le _, rfl, HO.out⟩
      case round =>
        clear HO
        obtain ⟨i, i1, rfl, ho⟩ := hrel
        have HO := hid_mk ho
        have d6 := ho.cell HZ6.out (.inr (Nat.zero_le _))
        have b0 : (0 : Int) ≤ (i : Int) := by omega
        by_cases hi : i < N2
        · have b1 : (i : Int) < (N2 : Int) := by omega
          have d7 := ho.cell HZ7.out (.inr (Nat.zero_le _))
          obtain ⟨g6, rfl, r6⟩ := HR6.out (by omega)
          obtain ⟨v6, h6⟩ : ∃ v, (X 6)[i]? = some v := ⟨_, List.getElem?_eq_getElem (by have := HL6.out; omega)⟩
          obtain ⟨g7, rfl, r7⟩ := HR7.out (by omega)
          obtain ⟨v7, h7⟩ : ∃ v, (X 7)[i]? = some v := ⟨_, List.getElem?_eq_getElem (by have := HL7.out; omega)⟩
          have q6 := HK.out.lf 2 i v6 (by omega) (Nat.zero_le _) h6
          have q7 := HK.out.wr 2 i v7 (by omega) h7
          obtain ⟨a6, c6, rfl⟩ := OwnF.shape (t := 2) q6.1
          obtain ⟨a7, c7, e7, r7'⟩ := id q7
          subst e7
          clear r7'
          have e6 := ho.cell (r6 i _ h6) (.inr (Nat.zero_le _))
          have e7 := ho.cell (r7 i _ h7) (.inr (Nat.zero_le _))
          have HS2 : Hid (∀ W, Out 0 0 w W → Calls Tryz.prog 63 #[.slice a6 (C 2 i).1 c6, .slice a7 (C 2 i).1 c7] W fun e w' => e = .returned (.bool true) ∧ Out 0 0 W w') := fun W o => sameBlocks_any ((OwnF.el (t := 2) q6.1).quiet o) (q7.el.quiet o) (by have := q6.2.1; omega)
          clear q6 q7 h6 h7 r6 r7
          generalize (C 2 i).1 = m2 at *
          clear ho
          go_wp2_with fail
          refine wp_region_held_drew (S := fun w' => w'.cell? ⟨b, 6, none⟩ = some (.slice (some ⟨g6, 0, none⟩) N2 cS6) ∧ w'.cell? ⟨g6, i, none⟩ = some (.slice a6 m2 c6) ∧ w'.cell? ⟨b, 7, none⟩ = some (.slice (some ⟨g7, 0, none⟩) N2 cS7) ∧ w'.cell? ⟨g7, i, none⟩ = some (.slice a7 m2 c7) ∧ Out 0 0 w w') (by kernel_rfl) ?hS36 (fun hHeld => ?rest36)
          case hS36 => exact ⟨d6, e6, d7, e7, HO.out.drew⟩
          refine wpAnyH_take (i := 0) (v := ?v37) rfl (by kernel_rfl) (by kernel_rfl) (by kernel_rfl) (fun _ _ _ h => h) (Or.inl ⟨by rfl, ?hy37⟩) (by assumption) ?rest37
          case hy37 => (intro w hSw; (try dsimp only at hSw); simp only [List.getElem_toArray, List.getElem_cons_zero, List.getElem_cons_succ]; go_simp; (try with_reducible rfl))
          (try simp only [Act.put, List.getElem_toArray, List.getElem_cons_zero, List.getElem_cons_succ, List.setIfInBounds_toArray, List.set_cons_zero, List.set_cons_succ])
          refine wpAnyH_take (i := 1) (v := ?v38) rfl (by kernel_rfl) (by kernel_rfl) (by kernel_rfl) (fun _ _ _ h => h) (Or.inl ⟨by rfl, ?hy38⟩) (by assumption) ?rest38
          case hy38 => (intro w hSw; (try dsimp only at hSw); simp only [List.getElem_toArray, List.getElem_cons_zero, List.getElem_cons_succ]; go_simp; (try with_reducible rfl))
          (try simp only [Act.put, List.getElem_toArray, List.getElem_cons_zero, List.getElem_cons_succ, List.setIfInBounds_toArray, List.set_cons_zero, List.set_cons_succ])
          refine wpAnyH_take (i := 2) (v := ?v39) rfl (by kernel_rfl) (by kernel_rfl) (by kernel_rfl) (fun _ _ _ h => h) (Or.inl ⟨by rfl, ?hy39⟩) (by assumption) ?rest39
          case hy39 => (intro w hSw; (try dsimp only at hSw); simp only [List.getElem_toArray, List.getElem_cons_zero, List.getElem_cons_succ]; go_simp; (try with_reducible rfl))
          (try simp only [Act.put, List.getElem_toArray, List.getElem_cons_zero, List.getElem_cons_succ, List.setIfInBounds_toArray, List.set_cons_zero, List.set_cons_succ])
          refine wpAnyH_take (i := 3) (v := ?v40) rfl (by kernel_rfl) (by kernel_rfl) (by kernel_rfl) (fun _ _ _ h => h) (Or.inl ⟨by rfl, ?hy40⟩) (by assumption) ?rest40
          case hy40 => (intro w hSw; (try dsimp only at hSw); simp only [List.getElem_toArray, List.getElem_cons_zero, List.getElem_cons_succ]; go_simp; (try with_reducible rfl))
          (try simp only [Act.put, List.getElem_toArray, List.getElem_cons_zero, List.getElem_cons_succ, List.setIfInBounds_toArray, List.set_cons_zero, List.set_cons_succ])
          refine wpAnyH_take (i := 4) (v := ?v41) rfl (by kernel_rfl) (by kernel_rfl) (by kernel_rfl) (fun _ _ _ h => h) (Or.inl ⟨by rfl, ?hy41⟩) (by assumption) ?rest41
          case hy41 => (intro w hSw; (try dsimp only at hSw); simp only [List.getElem_toArray, List.getElem_cons_zero, List.getElem_cons_succ]; go_simp; (try with_reducible rfl))
          (try simp only [Act.put, List.getElem_toArray, List.getElem_cons_zero, List.getElem_cons_succ, List.setIfInBounds_toArray, List.set_cons_zero, List.set_cons_succ])
          refine wpAnyH_take (i := 5) (v := ?v42) rfl (by kernel_rfl) (by kernel_rfl) (by kernel_rfl) (fun _ _ _ h => h) (Or.inl ⟨by rfl, ?hy42⟩) (by assumption) ?rest42
          case hy42 => (intro w hSw; (try dsimp only at hSw); simp only [List.getElem_toArray, List.getElem_cons_zero, List.getElem_cons_succ]; go_simp; (try with_reducible rfl))
          (try simp only [Act.put, List.getElem_toArray, List.getElem_cons_zero, List.getElem_cons_succ, List.setIfInBounds_toArray, List.set_cons_zero, List.set_cons_succ])
          refine wpAnyH_take (i := 6) (v := ?v43) rfl (by kernel_rfl) (by kernel_rfl) (by kernel_rfl) (fun _ _ _ h => h) (Or.inl ⟨by rfl, ?hy43⟩) (by assumption) ?rest43
          case hy43 => (intro w hSw; (try dsimp only at hSw); simp only [List.getElem_toArray, List.getElem_cons_zero, List.getElem_cons_succ]; go_simp; (try with_reducible rfl))
          (try simp only [Act.put, List.getElem_toArray, List.getElem_cons_zero, List.getElem_cons_succ, List.setIfInBounds_toArray, List.set_cons_zero, List.set_cons_succ])
          refine wpAnyH_take (i := 7) (v := ?v44) rfl (by kernel_rfl) (by kernel_rfl) (by kernel_rfl) (fun _ _ _ h => h) (Or.inl ⟨by rfl, ?hy44⟩) (by assumption) ?rest44
          case hy44 => (intro w hSw; (try dsimp only at hSw); simp only [List.getElem_toArray, List.getElem_cons_zero, List.getElem_cons_succ]; go_simp; (try with_reducible rfl))
          (try simp only [Act.put, List.getElem_toArray, List.getElem_cons_zero, List.getElem_cons_succ, List.setIfInBounds_toArray, List.set_cons_zero, List.set_cons_succ])
          refine wpAnyH_take (i := 8) (v := ?v45) rfl (by kernel_rfl) (by kernel_rfl) (by kernel_rfl) (fun _ _ _ h => h) (Or.inl ⟨by rfl, ?hy45⟩) (by assumption) ?rest45
          case hy45 => (intro w hSw; (try dsimp only at hSw); simp only [List.getElem_toArray, List.getElem_cons_zero, List.getElem_cons_succ]; go_simp; (try with_reducible rfl))
          (try simp only [Act.put, List.getElem_toArray, List.getElem_cons_zero, List.getElem_cons_succ, List.setIfInBounds_toArray, List.set_cons_zero, List.set_cons_succ])
          refine wpAnyH_take (i := 9) (v := ?v46) rfl (by kernel_rfl) (by kernel_rfl) (by kernel_rfl) (fun _ _ _ h => h) (Or.inl ⟨by rfl, ?hy46⟩) (by assumption) ?rest46
          case hy46 => (intro w hSw; (try dsimp only at hSw); simp only [List.getElem_toArray, List.getElem_cons_zero, List.getElem_cons_succ]; go_simp; (try with_reducible rfl))
          (try simp only [Act.put, List.getElem_toArray, List.getElem_cons_zero, List.getElem_cons_succ, List.setIfInBounds_toArray, List.set_cons_zero, List.set_cons_succ])
          refine wpAnyH_take (i := 10) (v := ?v47) rfl (by kernel_rfl) (by kernel_rfl) (by kernel_rfl) (fun _ _ _ h => h) (Or.inl ⟨by rfl, ?hy47⟩) (by assumption) ?rest47
          case hy47 => (intro w hSw; (try dsimp only at hSw); simp only [List.getElem_toArray, List.getElem_cons_zero, List.getElem_cons_succ]; go_simp; (try with_reducible rfl))
          (try simp only [Act.put, List.getElem_toArray, List.getElem_cons_zero, List.getElem_cons_succ, List.setIfInBounds_toArray, List.set_cons_zero, List.set_cons_succ])
          refine wpAnyH_take (i := 11) (v := ?v48) rfl (by kernel_rfl) (by kernel_rfl) (by kernel_rfl) (fun _ _ _ h => h) (Or.inl ⟨by rfl, ?hy48⟩) (by assumption) ?rest48
          case hy48 => (intro w hSw; (try dsimp only at hSw); simp only [List.getElem_toArray, List.getElem_cons_zero, List.getElem_cons_succ]; go_simp; (try with_reducible rfl))
          (try simp only [Act.put, List.getElem_toArray, List.getElem_cons_zero, List.getElem_cons_succ, List.setIfInBounds_toArray, List.set_cons_zero, List.set_cons_succ])
          refine wpAnyH_take (i := 12) (v := ?v49) rfl (by kernel_rfl) (by kernel_rfl) (by kernel_rfl) (fun _ _ _ h => h) (Or.inl ⟨by rfl, ?hy49⟩) (by assumption) ?rest49
          case hy49 => (intro w hSw; (try dsimp only at hSw); simp only [List.getElem_toArray, List.getElem_cons_zero, List.getElem_cons_succ]; go_simp; (try with_reducible rfl))
          (try simp only [Act.put, List.getElem_toArray, List.getElem_cons_zero, List.getElem_cons_succ, List.setIfInBounds_toArray, List.set_cons_zero, List.set_cons_succ])
          refine wpAnyH_take (i := 13) (v := ?v50) rfl (by kernel_rfl) (by kernel_rfl) (by kernel_rfl) (fun _ _ _ h => h) (Or.inl ⟨by rfl, ?hy50⟩) (by assumption) ?rest50
          case hy50 => (intro w hSw; (try dsimp only at hSw); simp only [List.getElem_toArray, List.getElem_cons_zero, List.getElem_cons_succ]; go_simp; (try with_reducible rfl))
          (try simp only [Act.put, List.getElem_toArray, List.getElem_cons_zero, List.getElem_cons_succ, List.setIfInBounds_toArray, List.set_cons_zero, List.set_cons_succ])
          refine wpAnyH_ready (rs := [14]) (by kernel_rfl) (by simp) ?_
          refine AllReadyH.cons rfl (fun KK hK => ?_) AllReadyH.nil
          simp only [List.getElem_toArray, List.getElem_cons_zero, List.getElem_cons_succ]
          go_simp
          refine (HS2.out _ hHeld.2.2.2.2).mono ?_
          rintro e V14 ⟨rfl, q14⟩
          refine hK.out _ _ ?hS51 (fun hHeld2 => ?rest51)
          case hS51 => exact ⟨q14.cell hHeld.1 (.inr (Nat.zero_le _)), q14.cell hHeld.2.1 (.inr (Nat.zero_le _)), q14.cell hHeld.2.2.1 (.inr (Nat.zero_le _)), q14.cell hHeld.2.2.2.1 (.inr (Nat.zero_le _)), hHeld.2.2.2.2.trans q14⟩
          clear hK KK
          (try clear hHeld)
          have hHeld := hHeld2
          clear hHeld2
          (try simp only [Act.put, List.getElem_toArray, List.getElem_cons_zero, List.getElem_cons_succ, List.setIfInBounds_toArray, List.set_cons_zero, List.set_cons_succ])
          refine wpAnyH_take (i := 15) (v := ?v52) rfl (by kernel_rfl) (by kernel_rfl) (by kernel_rfl) (fun _ _ _ h => h) (Or.inl ⟨by rfl, ?hy52⟩) (by assumption) ?rest52
          case hy52 => (intro w hSw; (try dsimp only at hSw); simp only [List.getElem_toArray, List.getElem_cons_zero, List.getElem_cons_succ]; go_simp; (try with_reducible rfl))
          (try simp only [Act.put, List.getElem_toArray, List.getElem_cons_zero, List.getElem_cons_succ, List.setIfInBounds_toArray, List.set_cons_zero, List.set_cons_succ])
          refine wpAnyH_done (by kernel_rfl) ?_ _
          have hE := hHeld.2.2.2.2
          clear hHeld
          go_wp2
          all_goals go_roundw
          case rel => exact ⟨i + 1, by omega, by go_num, hE⟩
          case measure => simp [intOf]; omega
        · have : N2 = i := by omega
          subst this
          have HA : Hid (ASt B b V X C col w F0 F1 F2 wr 0 0) := ⟨V, X, col, fun _ => 0, HK.out.quiet ho, ⟨Nat.zero_le _, Nat.zero_le _, Nat.zero_le _⟩, fun _ _ => ⟨rfl, rfl⟩, HF.out, (Fix.refl _ _).out ho⟩
          clear ho hi
          go_wp2_with fail
          clear d6 b0 i1 HO HK
          go_loopw [5] (fun y wr => ∃ i : Nat, i ≤ N0 ∧ y = .int .i64 (i : Int) ∧ ASt B b V X C col w F0 F1 F2 wr i 0) (fun y _ => N0 - (intOf y).toNat)
          case atStart => exact ⟨0, Nat.zero_le _, rfl, HA.out⟩
          case round =>
            clear HA
            obtain ⟨i, i1, rfl, hA⟩ := hrel
            have HA := hid_mk hA
            obtain ⟨V', X', col', p', k1, k2, k3, k4, k5⟩ := hA
            have d2 := k1.cell 2 (by omega)
            rw [(k3 2 (by omega)).1, HE2.out] at d2
            have b0 : (0 : Int) ≤ (i : Int) := by omega
            by_cases hi : i < N0
            · have b1 : (i : Int) < (N0 : Int) := by omega
              obtain ⟨g2, e2, r9⟩ := HR2.out (by omega)
              clear r9
              obtain ⟨v2, h2⟩ : ∃ v, (X 2)[i]? = some v := ⟨_, List.getElem?_eq_getElem (by have := HL2.out; omega)⟩
              have o2 := k1.own 2 (by omega) (by omega)
              rw [(k3 2 (by omega)).1, (k3 2 (by omega)).2, HE2.out, HL2.out, e2] at o2
              have r2 := row_cell o2 h2
              rw [e2] at d2
              obtain ⟨col2, t1, t2, t3, t4, t5⟩ := k1.take (t := 0) (i := i) (by omega) k2.1 (by rw [(k3 2 (by omega)).2]; exact h2)
              have HH := hid_mk (mark0_any t1 t2 t3 t4 (K := F0 + 8 * i) k4.1 (by have := HN.out; omega))
              have HF3 := hid_mk (k5.trans t5)
              have HP := hid_mk (And.intro k2 (And.intro k3 k4))
              obtain ⟨av, cv, rfl⟩ := t2.shape
              generalize (C 0 i).1 = nn at *
              clear k1 k2 k3 k4 k5 t1 t2 t3 t4 t5 o2 h2 e2
              go_wp2_with fail
              refine HH.out.mono ?_
              rintro e w2 ⟨rfl, he⟩
              obtain ⟨V2, X2, col3, m1, m2, m3, m4⟩ := he
              have d4 := m1.cell 4 (by omega)
              have s4 : V2 4 = V 4 ∧ X2 4 = X 4 := ⟨(m3 4 (by omega) (by omega)).1.trans (HP.out.2.1 4 (by omega)).1, (m3 4 (by omega) (by omega)).2.trans (HP.out.2.1 4 (by omega)).2⟩
              rw [s4.1, HE4.out] at d4
              obtain ⟨g4, e4, r9⟩ := HR4.out (by omega)
              clear r9
              obtain ⟨v4, h4⟩ : ∃ v, (X 4)[i]? = some v := ⟨_, List.getElem?_eq_getElem (by have := HL4.out; omega)⟩
              have o4 := m1.own 4 (by omega) (by omega)
              rw [s4.1, s4.2, HE4.out, HL4.out, e4] at o4
              have r4 := row_cell o4 h4
              rw [e4] at d4
              obtain ⟨col4, t1, t2, t3, t4, t5⟩ := m1.take (t := 1) (i := i) (by omega) (by show (if 1 = 0 then i + 1 else p' 1) ≤ i; rw [if_neg (by omega)]; exact HP.out.1.2.1) (by rw [s4.2]; exact h4)
              have HH4 := hid_mk (mark1_any t1 t2 t3 t4 (K := F1 + 8 * i) (by rw [(m3 9 (by omega) (by omega)).2, (m3 12 (by omega) (by omega)).2]; exact HP.out.2.2.2.1) (by have := HN.out; omega))
              have HF4 := hid_mk ((HF3.out.trans m4).trans t5)
              have HM := hid_mk (And.intro m2 m3)
              obtain ⟨av4, cv4, rfl⟩ := t2.shape
              generalize (C 1 i).1 = nn4 at *
              clear m1 m2 m3 m4 t1 t2 t3 t4 t5 o4 h4 s4 HH HF3 d2 r2 e4
              go_wp2_with fail
              refine HH4.out.mono ?_
              rintro e w3 ⟨rfl, he⟩
              obtain ⟨V3, X3, col5, u1, u2, u3, u4⟩ := he
              have HE : Hid (ASt B b V X C col w F0 F1 F2 w3 (i + 1) 0) := by
                have q1 := HP.out
                have q2 := HM.out
                refine ⟨V3, X3, col5, _, u1, ⟨?_, ?_, ?_⟩, fun j hj => ?_, ⟨?_, ?_, ?_⟩, HF4.out.trans u4⟩
                · show (if 0 = 1 then i + 1 else if 0 = 0 then i + 1 else p' 0) ≤ i + 1
                  rw [if_neg (by omega), if_pos rfl]
                  exact Nat.le_refl _
                · show (if 1 = 1 then i + 1 else if 1 = 0 then i + 1 else p' 1) ≤ i + 1
                  rw [if_pos rfl]
                  exact Nat.le_refl _
                · show (if 2 = 1 then i + 1 else if 2 = 0 then i + 1 else p' 2) ≤ 0
                  rw [if_neg (by omega), if_neg (by omega)]
                  exact q1.1.2.2
                · obtain ⟨x1, x2⟩ := u3 j (by omega) (by omega)
                  obtain ⟨x3, x4⟩ := q2.2 j (by omega) (by omega)
                  obtain ⟨x5, x6⟩ := q1.2.1 j hj
                  exact ⟨x1.trans (x3.trans x5), x2.trans (x4.trans x6)⟩
                · rw [(u3 8 (by omega) (by omega)).2, (u3 11 (by omega) (by omega)).2, q2.1.1, q2.1.2]
                  exact ⟨rfl, rfl⟩
                · rw [u2.1, u2.2]
                  exact ⟨rfl, rfl⟩
                · rw [(u3 10 (by omega) (by omega)).2, (u3 13 (by omega) (by omega)).2, (q2.2 10 (by omega) (by omega)).2, (q2.2 13 (by omega) (by omega)).2]
                  exact q1.2.2.2.2
              clear u1 u2 u3 u4 HH4 HF4 HM HP HA d4 r4
              go_wp2
              go_roundw
              case rel => exact ⟨i + 1, by omega, by go_num, HE.out⟩
              case measure => simp [intOf]; omega
            · have : N0 = i := by omega
              subst this
              clear hi i1 k1 k2 k3 k4 k5
              go_wp2_with fail
              clear d2 b0
              go_loopw [6] (fun y wr => ∃ i : Nat, i ≤ N2 ∧ y = .int .i64 (i : Int) ∧ ASt B b V X C col w F0 F1 F2 wr N0 i) (fun y _ => N2 - (intOf y).toNat)
              case atStart => exact ⟨0, Nat.zero_le _, rfl, HA.out⟩
              case round =>
                clear HA
                obtain ⟨i, i1, rfl, hA⟩ := hrel
                have HA := hid_mk hA
                obtain ⟨V', X', col', p', k1, k2, k3, k4, k5⟩ := hA
                have d6 := k1.cell 6 (by omega)
                rw [(k3 6 (by omega)).1, HE6.out] at d6
                have b0 : (0 : Int) ≤ (i : Int) := by omega
                by_cases hi : i < N2
                · have b1 : (i : Int) < (N2 : Int) := by omega
                  obtain ⟨g6, e6, r9⟩ := HR6.out (by omega)
                  clear r9
                  obtain ⟨v6, h6⟩ : ∃ v, (X 6)[i]? = some v := ⟨_, List.getElem?_eq_getElem (by have := HL6.out; omega)⟩
                  have o6 := k1.own 6 (by omega) (by omega)
                  rw [(k3 6 (by omega)).1, (k3 6 (by omega)).2, HE6.out, HL6.out, e6] at o6
                  have r6 := row_cell o6 h6
                  rw [e6] at d6
                  obtain ⟨col2, t1, t2, t3, t4, t5⟩ := k1.take (t := 2) (i := i) (by omega) k2.2.2 (by rw [(k3 6 (by omega)).2]; exact h6)
                  have HH := hid_mk (mark2_any t1 t2 t3 t4 (K := F2 + 8 * i) k4.2.2 (by have := HN.out; omega))
                  have HF3 := hid_mk (k5.trans t5)
                  have HP := hid_mk (And.intro k2 (And.intro k3 k4))
                  obtain ⟨av, cv, rfl⟩ := t2.shape
                  generalize (C 2 i).1 = nn at *
                  clear k1 k2 k3 k4 k5 t1 t2 t3 t4 t5 o6 h6 e6
                  go_wp2_with fail
                  refine HH.out.mono ?_
                  rintro e w2 ⟨rfl, he⟩
                  obtain ⟨V3, X3, col5, u1, u2, u3, u4⟩ := he
                  have HE : Hid (ASt B b V X C col w F0 F1 F2 w2 N0 (i + 1)) := by
                    have q1 := HP.out
                    refine ⟨V3, X3, col5, _, u1, ⟨?_, ?_, ?_⟩, fun j hj => ?_, ⟨?_, ?_, ?_⟩, HF3.out.trans u4⟩
                    · show (if 0 = 2 then i + 1 else p' 0) ≤ N0
                      rw [if_neg (by omega)]
                      exact q1.1.1
                    · show (if 1 = 2 then i + 1 else p' 1) ≤ N0
                      rw [if_neg (by omega)]
                      exact q1.1.2.1
                    · show (if 2 = 2 then i + 1 else p' 2) ≤ i + 1
                      rw [if_pos rfl]
                      exact Nat.le_refl _
                    · obtain ⟨x1, x2⟩ := u3 j (by omega) (by omega)
                      obtain ⟨x5, x6⟩ := q1.2.1 j hj
                      exact ⟨x1.trans x5, x2.trans x6⟩
                    · rw [(u3 8 (by omega) (by omega)).2, (u3 11 (by omega) (by omega)).2]
                      exact q1.2.2.1
                    · rw [(u3 9 (by omega) (by omega)).2, (u3 12 (by omega) (by omega)).2]
                      exact q1.2.2.2.1
                    · rw [u2.1, u2.2]
                      exact ⟨rfl, rfl⟩
                  clear u1 u2 u3 u4 HH HF3 HP HA d6 r6
                  go_wp2
                  go_roundw
                  case rel => exact ⟨i + 1, by omega, by go_num, HE.out⟩
                  case measure => simp [intOf]; omega
                · have : N2 = i := by omega
                  subst this
                  have HHo := hid_mk (hold_any k1 fun t ht => by
                    have hc : t = 0 ∨ t = 1 ∨ t = 2 := by omega
                    have := HN.out
                    rcases hc with rfl | rfl | rfl
                    · rw [k4.1.1, k4.1.2]; exact ⟨rfl, by omega⟩
                    · rw [k4.2.1.1, k4.2.1.2]; exact ⟨rfl, by omega⟩
                    · rw [k4.2.2.1, k4.2.2.2]; exact ⟨rfl, by omega⟩)
                  have HQ : Hid (∀ w', Out 0 0 wr w' → ASt B b V X C col w F0 F1 F2 w' N0 N2) := fun w' o => ⟨V', X', col', p', k1.quiet o, k2, k3, k4, k5.out o⟩
                  clear hi i1 k1 k2 k3 k4 k5
                  go_wp2_with (go_at_call 84; refine HHo.out.mono ?_; rintro e w2 ⟨rfl, o2⟩)
                  go_ret
                  exact ⟨rfl, HQ.out _ o2⟩
end Go.Proofs.YtjbbkeoolodeaaaGreatDoor
