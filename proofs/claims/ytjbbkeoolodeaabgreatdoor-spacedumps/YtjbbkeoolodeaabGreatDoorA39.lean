import Derived.Test.YtjbbkeoolodeaabGreatDoorA03
namespace Go.Proofs.YtjbbkeoolodeaabGreatDoor
open Go.RowKit
set_option linter.unusedVariables false
set_option maxRecDepth 100000
set_option maxHeartbeats 16000000
set_option linter.unusedSimpArgs false
theorem F5 {w : World} {B n : Nat} {T : TypeId} {v : Value} {xs : List Value} (h : w.ownsRow B T 1 v n xs) : ∃ a cap, v = .slice a n cap ∧ (0 < n → ∃ g, a = some ⟨g, 0, none⟩ ∧ ∀ (j : Nat) u, xs[j]? = some u → w.cell? ⟨g, j, none⟩ = some u) := by
 obtain ⟨a, cap, rfl⟩ := Q8 h; refine ⟨a, cap, rfl, fun h0 => ?_⟩; obtain ⟨g, cap', e, hg, _⟩ := h.form h0; cases e; exact ⟨g, rfl, fun j u hu => z4s h hu⟩
theorem j5h {B b : Nat} {w : World} {V : Nat → Value} {X : Nat → List Value} {C : Nat → Nat → Nat × (Nat → Nat → Int)} {col : Nat → Nat} {p : Nat → Nat}
  (h : Kp B w b V X C col none p) (hlen : ∀ t, t < 3 → (X (8 + t)).length = (X (11 + t)).length ∧ (X (11 + t)).length ≤ 8008) :
  Calls Tryz.prog 91 #[.pointer (some ⟨b, 2, none⟩)] w fun e w' => e = .returned (.bool true) ∧ Out 0 0 w w' := by
 have HFu := Z0 h.fl; obtain ⟨aS0, cS0, eS, rS0⟩ := F5 (h.own 8 (by omega) (by omega)); obtain ⟨aM0, cM0, eM, rM0⟩ := F5 (h.own 11 (by omega) (by omega)); have z := h.cell 8 (by omega); have y := h.cell 11 (by omega); obtain ⟨K0, hK0⟩ : ∃ K, (X 11).length = K := ⟨_, rfl⟩
 have hF : (X 8).length = K0 := (hlen 0 (by omega)).1.trans hK0; have s0 : (K0 : Int) ≤ 8008 := by have q : (X 11).length ≤ 8008 := (hlen 0 (by omega)).2; omega
 rw [eS, hF] at z; rw [eM, hK0] at y; rw [hF] at rS0; rw [hK0] at rM0; have HZ0 := Z0 z; have HY0 := Z0 y; have HRS0 := Z0 rS0; have HRM0 := Z0 rM0; have HL0 := Z0 (And.intro hF hK0); clear z y rS0 rM0 eS eM hF hK0; obtain ⟨aS1, cS1, eS, rS1⟩ := F5 (h.own 9 (by omega) (by omega)); obtain ⟨aM1, cM1, eM, rM1⟩ := F5 (h.own 12 (by omega) (by omega)); have z := h.cell 9 (by omega); have y := h.cell 12 (by omega); obtain ⟨K1, hK1⟩ : ∃ K, (X 12).length = K := ⟨_, rfl⟩
 have hF : (X 9).length = K1 := (hlen 1 (by omega)).1.trans hK1; have s1 : (K1 : Int) ≤ 8008 := by have q : (X 12).length ≤ 8008 := (hlen 1 (by omega)).2; omega
 rw [eS, hF] at z; rw [eM, hK1] at y; rw [hF] at rS1; rw [hK1] at rM1; have HZ1 := Z0 z; have HY1 := Z0 y; have HRS1 := Z0 rS1; have HRM1 := Z0 rM1; have HL1 := Z0 (And.intro hF hK1); clear z y rS1 rM1 eS eM hF hK1; obtain ⟨aS2, cS2, eS, rS2⟩ := F5 (h.own 10 (by omega) (by omega)); obtain ⟨aM2, cM2, eM, rM2⟩ := F5 (h.own 13 (by omega) (by omega)); have z := h.cell 10 (by omega); have y := h.cell 13 (by omega); obtain ⟨K2, hK2⟩ : ∃ K, (X 13).length = K := ⟨_, rfl⟩
 have hF : (X 10).length = K2 := (hlen 2 (by omega)).1.trans hK2; have s2 : (K2 : Int) ≤ 8008 := by have q : (X 13).length ≤ 8008 := (hlen 2 (by omega)).2; omega
 rw [eS, hF] at z; rw [eM, hK2] at y; rw [hF] at rS2; rw [hK2] at rM2; have HZ2 := Z0 z; have HY2 := Z0 y; have HRS2 := Z0 rS2; have HRM2 := Z0 rM2; have HL2 := Z0 (And.intro hF hK2); clear z y rS2 rM2 eS eM hF hK2; clear h hlen; go_enter Tryz.func91, Tryz.ntmps91
 go_wp2_with fail; go_loopw [3] (fun y wr => ∃ i : Nat, i ≤ K0 ∧ y = .int .i64 (i : Int) ∧ Out 0 0 w wr) (fun y _ => K0 - (intOf y).toNat)
 case atStart => exact ⟨0, Nat.zero_le _, rfl, Out.refl 0 0 _⟩
 case round =>
  obtain ⟨i, i1, rfl, ho⟩ := hrel; have HO0 := Z0 ho; have d2 := ho.cell HZ0.out z0; have b0 : (0 : Int) ≤ (i : Int) := by omega
  by_cases hi : i < K0
  ·have b1 : (i : Int) < (K0 : Int) := by omega
   obtain ⟨gS, rfl, rs⟩ := HRS0.out (by omega); obtain ⟨gM, rfl, rm⟩ := HRM0.out (by omega); obtain ⟨v, hv⟩ : ∃ v, (X 8)[i]? = some v := ⟨_, List.getElem?_eq_getElem (by have := HL0.out.1; omega)⟩
   obtain ⟨z, hz⟩ : ∃ z, (X 11)[i]? = some z := ⟨_, List.getElem?_eq_getElem (by have := HL0.out.2; omega)⟩
   obtain ⟨x, rfl, a, nn, cap, rfl, hn, hr⟩ := HFu.out 0 i v z (by omega) hv hz; have HS0 : Hid (∀ w', Out 0 0 w w' → w'.cell? ⟨gS, i, none⟩ = some (.slice a nn cap)) := fun w' o => o.cell (rs i _ hv) z0
   have HM0 : Hid (∀ w', Out 0 0 w w' → w'.cell? ⟨gM, i, none⟩ = some (.int .i64 (x : Int))) := fun w' o => o.cell (rm i _ hz) z0
   have HR := Z0 hr; have d4 := HS0.out wr ho; have n4 : (nn : Int) ≤ 1700 := by omega
   have x4 : (x : Int) ≤ 2000000 := by omega
   clear ho hr rs rm hv hz hn; go_wp2_with fail; clear d2 d4; go_loopw [4] (fun y wr => ∃ j : Nat, j ≤ nn ∧ y = .int .i64 (j : Int) ∧ Out 0 0 w wr) (fun y _ => nn - (intOf y).toNat)
   case atStart => exact ⟨0, Nat.zero_le _, rfl, HO0.out⟩
   case round =>
    clear HO0; obtain ⟨j, j1, rfl, ho⟩ := hrel; have HO4 := Z0 ho; have d2 := ho.cell HZ0.out z0; have d3 := ho.cell HY0.out z0; have d4 := HS0.out wr ho; have d5 := HM0.out wr ho; have a0 : (0 : Int) ≤ (j : Int) := by omega
    by_cases hj : j < nn
    ·have a1 : (j : Int) < (nn : Int) := by omega
     obtain ⟨g, rfl, _, _, hg⟩ := HR.out (by omega); have d6 : wr.cell? ⟨g, j, none⟩ = some (.int .i64 (x : Int)) := by
      have d := ho.cell (hg j 0 hj (by decide)) z0; rw [show mkF 0 x 0 = (x : Int) from by simp [mkF]] at d; rw [show j * szK 0 + 0 = j from by unfold szK; simp] at d; exact d
     have ex : ((x : Int) != (x : Int)) = false := by simp
     clear ho hg; go_wp2_with fail; go_region_held3 (fun w' => w'.cell? ⟨b, 8, none⟩ = some (.slice (some ⟨gS, 0, none⟩) K0 cS0) ∧ w'.cell? ⟨gS, i, none⟩ = some (.slice (some ⟨g, 0, none⟩) nn cap) ∧ w'.cell? ⟨g, j, none⟩ = some (.int .i64 (x : Int)) ∧ w'.cell? ⟨b, 11, none⟩ = some (.slice (some ⟨gM, 0, none⟩) K0 cM0) ∧ w'.cell? ⟨gM, i, none⟩ = some (.int .i64 (x : Int))) (go_keep) (fail)
     all_goals go_wp2
     all_goals go_roundw
     case rel => exact ⟨j + 1, by omega, by go_num, HO4.out.drew⟩
     case measure => simp [intOf]; omega
    ·have : nn = j := by omega
     subst this; clear ho; go_wp2; go_roundw
     case rel => exact ⟨i + 1, by omega, by go_num, HO4.out⟩
     case measure => simp [intOf]; omega
  ·have : K0 = i := by omega
   subst this; clear ho hi; go_wp2_with fail; clear d2 b0 i1; go_loopw [5] (fun y wr => ∃ i : Nat, i ≤ K1 ∧ y = .int .i64 (i : Int) ∧ Out 0 0 w wr) (fun y _ => K1 - (intOf y).toNat)
   case atStart => exact ⟨0, Nat.zero_le _, rfl, HO0.out⟩
   case round =>
    obtain ⟨i, i1, rfl, ho⟩ := hrel; have HO1 := Z0 ho; have d2 := ho.cell HZ1.out z0; have b0 : (0 : Int) ≤ (i : Int) := by omega
    by_cases hi : i < K1
    ·have b1 : (i : Int) < (K1 : Int) := by omega
     obtain ⟨gS, rfl, rs⟩ := HRS1.out (by omega); obtain ⟨gM, rfl, rm⟩ := HRM1.out (by omega); obtain ⟨v, hv⟩ : ∃ v, (X 9)[i]? = some v := ⟨_, List.getElem?_eq_getElem (by have := HL1.out.1; omega)⟩
     obtain ⟨z, hz⟩ : ∃ z, (X 12)[i]? = some z := ⟨_, List.getElem?_eq_getElem (by have := HL1.out.2; omega)⟩
     obtain ⟨x, rfl, a, nn, cap, rfl, hn, hr⟩ := HFu.out 1 i v z (by omega) hv hz; have HS0 : Hid (∀ w', Out 0 0 w w' → w'.cell? ⟨gS, i, none⟩ = some (.slice a nn cap)) := fun w' o => o.cell (rs i _ hv) z0
     have HM0 : Hid (∀ w', Out 0 0 w w' → w'.cell? ⟨gM, i, none⟩ = some (.int .i64 (x : Int))) := fun w' o => o.cell (rm i _ hz) z0
     have HR := Z0 hr; have d4 := HS0.out wr ho; have n4 : (nn : Int) ≤ 1700 := by omega
     have x4 : (x : Int) ≤ 2000000 := by omega
     clear ho hr rs rm hv hz hn; go_wp2_with fail; clear d2 d4; go_loopw [6] (fun y wr => ∃ j : Nat, j ≤ nn ∧ y = .int .i64 (j : Int) ∧ Out 0 0 w wr) (fun y _ => nn - (intOf y).toNat)
     case atStart => exact ⟨0, Nat.zero_le _, rfl, HO1.out⟩
     case round =>
      clear HO1; obtain ⟨j, j1, rfl, ho⟩ := hrel; have HO4 := Z0 ho; have d2 := ho.cell HZ1.out z0; have d3 := ho.cell HY1.out z0; have d4 := HS0.out wr ho; have d5 := HM0.out wr ho; have a0 : (0 : Int) ≤ (j : Int) := by omega
      by_cases hj : j < nn
      ·have a1 : (j : Int) < (nn : Int) := by omega
       obtain ⟨g, rfl, _, _, hg⟩ := HR.out (by omega); have d6 : wr.cell? ⟨g, j * 3, none⟩ = some (.int .i64 (x : Int)) := by
        have d := ho.cell (hg j 0 hj (by decide)) z0; rw [show mkF 1 x 0 = (x : Int) from by simp [mkF]] at d; exact d
       have ex : ((x : Int) != (x : Int)) = false := by simp
       clear ho hg; go_wp2_with fail; go_region_held3 (fun w' => w'.cell? ⟨b, 9, none⟩ = some (.slice (some ⟨gS, 0, none⟩) K1 cS1) ∧ w'.cell? ⟨gS, i, none⟩ = some (.slice (some ⟨g, 0, none⟩) nn cap) ∧ w'.cell? ⟨g, j * 3, none⟩ = some (.int .i64 (x : Int)) ∧ w'.cell? ⟨b, 12, none⟩ = some (.slice (some ⟨gM, 0, none⟩) K1 cM1) ∧ w'.cell? ⟨gM, i, none⟩ = some (.int .i64 (x : Int))) (go_keep) (fail)
       all_goals go_wp2
       all_goals go_roundw
       case rel => exact ⟨j + 1, by omega, by go_num, HO4.out.drew⟩
       case measure => simp [intOf]; omega
      ·have : nn = j := by omega
       subst this; clear ho; go_wp2; go_roundw
       case rel => exact ⟨i + 1, by omega, by go_num, HO4.out⟩
       case measure => simp [intOf]; omega
    ·have : K1 = i := by omega
     subst this; clear ho hi; go_wp2_with fail; clear d2 b0 i1; go_loopw [7] (fun y wr => ∃ i : Nat, i ≤ K2 ∧ y = .int .i64 (i : Int) ∧ Out 0 0 w wr) (fun y _ => K2 - (intOf y).toNat)
     case atStart => exact ⟨0, Nat.zero_le _, rfl, HO1.out⟩
     case round =>
      obtain ⟨i, i1, rfl, ho⟩ := hrel; have HO2 := Z0 ho; have d2 := ho.cell HZ2.out z0; have b0 : (0 : Int) ≤ (i : Int) := by omega
      by_cases hi : i < K2
      ·have b1 : (i : Int) < (K2 : Int) := by omega
       obtain ⟨gS, rfl, rs⟩ := HRS2.out (by omega); obtain ⟨gM, rfl, rm⟩ := HRM2.out (by omega); obtain ⟨v, hv⟩ : ∃ v, (X 10)[i]? = some v := ⟨_, List.getElem?_eq_getElem (by have := HL2.out.1; omega)⟩
       obtain ⟨z, hz⟩ : ∃ z, (X 13)[i]? = some z := ⟨_, List.getElem?_eq_getElem (by have := HL2.out.2; omega)⟩
       obtain ⟨x, rfl, a, nn, cap, rfl, hn, hr⟩ := HFu.out 2 i v z (by omega) hv hz; have HS0 : Hid (∀ w', Out 0 0 w w' → w'.cell? ⟨gS, i, none⟩ = some (.slice a nn cap)) := fun w' o => o.cell (rs i _ hv) z0
       have HM0 : Hid (∀ w', Out 0 0 w w' → w'.cell? ⟨gM, i, none⟩ = some (.int .i64 (x : Int))) := fun w' o => o.cell (rm i _ hz) z0
       have HR := Z0 hr; have d4 := HS0.out wr ho; have n4 : (nn : Int) ≤ 1700 := by omega
       have x4 : (x : Int) ≤ 2000000 := by omega
       clear ho hr rs rm hv hz hn; go_wp2_with fail; clear d2 d4; go_loopw [8] (fun y wr => ∃ j : Nat, j ≤ nn ∧ y = .int .i64 (j : Int) ∧ Out 0 0 w wr) (fun y _ => nn - (intOf y).toNat)
       case atStart => exact ⟨0, Nat.zero_le _, rfl, HO2.out⟩
       case round =>
        clear HO2; obtain ⟨j, j1, rfl, ho⟩ := hrel; have HO4 := Z0 ho; have d2 := ho.cell HZ2.out z0; have d3 := ho.cell HY2.out z0; have d4 := HS0.out wr ho; have d5 := HM0.out wr ho; have a0 : (0 : Int) ≤ (j : Int) := by omega
        by_cases hj : j < nn
        ·have a1 : (j : Int) < (nn : Int) := by omega
         obtain ⟨g, rfl, _, _, hg⟩ := HR.out (by omega); have d6 : wr.cell? ⟨g, j * 5 + 1, none⟩ = some (.int .i64 (x : Int)) := by
          have d := ho.cell (hg j 1 hj (by decide)) z0; rw [show mkF 2 x 1 = (x : Int) from by simp [mkF]] at d; exact d
         have ex : ((x : Int) != (x : Int)) = false := by simp
         clear ho hg; go_wp2_with fail; go_region_held3 (fun w' => w'.cell? ⟨b, 10, none⟩ = some (.slice (some ⟨gS, 0, none⟩) K2 cS2) ∧ w'.cell? ⟨gS, i, none⟩ = some (.slice (some ⟨g, 0, none⟩) nn cap) ∧ w'.cell? ⟨g, j * 5 + 1, none⟩ = some (.int .i64 (x : Int)) ∧ w'.cell? ⟨b, 13, none⟩ = some (.slice (some ⟨gM, 0, none⟩) K2 cM2) ∧ w'.cell? ⟨gM, i, none⟩ = some (.int .i64 (x : Int))) (go_keep) (fail)
         all_goals go_wp2
         all_goals go_roundw
         case rel => exact ⟨j + 1, by omega, by go_num, HO4.out.drew⟩
         case measure => simp [intOf]; omega
        ·have : nn = j := by omega
         subst this; clear ho; go_wp2; go_roundw
         case rel => exact ⟨i + 1, by omega, by go_num, HO4.out⟩
         case measure => simp [intOf]; omega
      ·have : K2 = i := by omega
       subst this; clear ho hi; go_wp2; go_ret; exact ⟨rfl, HO2.out⟩
end Go.Proofs.YtjbbkeoolodeaabGreatDoor
