/- alive; a pair in memory -/
import Derived.Test.YtnkobcldagajeabDoorBj
import Derived.Test.YtnkobcldagajeabDoorBe
import Derived.Test.YtnkobcldagajeabDoorBk
namespace Go.Proofs.YtnkobcldagajeabDoor
open Go.RowKit
set_option linter.unusedVariables false
set_option linter.unusedSimpArgs false

theorem one64_nx : nxr (upd (fun _ => false) 64 true) 100 0 = 64 := by
  have e : nx (upd (fun _ => false) 64 true) 100 0 = 64 := nx_eq _ 100 0 64 (by omega) (by omega) (fun j _ hj => by unfold upd; rw [if_neg (by omega)]) (fun _ => rfl)
  unfold nxr; rw [e]; rfl
theorem one64_cnt : cnt (upd (fun _ => false) 64 true) 100 = 1 := by decide
set_option maxHeartbeats 1000000 in
theorem alive_any (w : World) (hT : Tab w) : Calls Tryd.prog 9 #[] w fun e w' => e = .returned (.bool true) ∧ Out 0 0 w w' := by
  have HN := hid_mk (new_any 100 w (by omega) hT)
  clear hT
  go_enter Tryd.func9, Tryd.ntmps9
  go_wp2_with fail
  refine HN.out.mono ?_
  rintro e w1 ⟨b, rfl, hm, ho⟩
  have HS := hid_mk (set_any hm 64)
  rw [show setE 100 64 = 0 from by decide, show setS (fun _ => false) 100 64 true = upd (fun _ => false) 64 true from by unfold setS; rw [if_pos (by decide)]; rfl] at HS
  have HO := hid_mk ho
  clear hm ho HN
  go_wp2_with fail
  refine HS.out.mono ?_
  rintro e w2 ⟨rfl, hm, ho⟩
  have HO2 := hid_mk (HO.out.past ho (Nat.le_refl _))
  have HG := hid_mk (get_any hm 64)
  rw [show getB (upd (fun _ => false) 64 true) 100 64 = true from by decide] at HG
  have HM := hid_mk hm
  clear hm ho HS HO
  go_wp2_with fail
  refine HG.out.mono ?_
  rintro e w3 ⟨rfl, ho⟩
  have HX := hid_mk (next_any (HM.out.quiet ho) 0)
  rw [show (0 : Int).toNat = 0 from rfl, one64_nx] at HX
  have HM3 := hid_mk (HM.out.quiet ho)
  have HO3 := hid_mk (HO2.out.trans ho)
  clear ho HG HM HO2
  go_wp2_with fail
  refine HX.out.mono ?_
  rintro e w4 ⟨rfl, ho⟩
  have HC := hid_mk (count_any (HM3.out.quiet ho))
  rw [one64_cnt] at HC
  have HM4 := hid_mk (HM3.out.quiet ho)
  have HO4 := hid_mk (HO3.out.trans ho)
  clear ho HX HM3 HO3
  go_wp2_with fail
  refine HC.out.mono ?_
  rintro e w5 ⟨rfl, ho⟩
  have HL := hid_mk (len_any (HM4.out.quiet ho))
  have HO5 := hid_mk (HO4.out.trans ho)
  clear ho HC HM4 HO4
  go_wp2_with fail
  refine calls_same HL.out ?_
  go_wp2
  go_ret
  exact ⟨rfl, HO5.out⟩
end Go.Proofs.YtnkobcldagajeabDoor
