/- LayoutAll -/
import Derived.Test.YtoajgbgmiionpaaDoorYz
import Derived.Deep.Slices
import Derived.Lib.SmallJoins
namespace Go.Proofs.YtoajgbgmiionpaaDoor
open Go.RowKit
set_option linter.unusedVariables false
set_option linter.unusedSimpArgs false

theorem heap_some {w : World} {k : Nat} (h : k < w.heap.size) : ∃ o, w.heap[k]? = some o := ⟨_, Array.getElem?_eq_getElem h⟩
theorem box_cells {w : World} {X : Nat} {k a b c : Int} {T : TypeId} (h : w.heap[X]? = some (.cells #[.int .i64 k, .int .i64 a, .int .i64 b, .int .i64 c] T (0, 0))) :
    w.cell? ⟨X, 0, none⟩ = some (.int .i64 k) ∧ w.cell? ⟨X, 1, none⟩ = some (.int .i64 a) ∧ w.cell? ⟨X, 2, none⟩ = some (.int .i64 b) ∧ w.cell? ⟨X, 3, none⟩ = some (.int .i64 c) := by
  simp [World.cell?, h]
set_option maxRecDepth 100000 in
set_option maxHeartbeats 4000000 in
theorem all_any {w : World} (hT : Tab w) {a : Option Addr} {len cap : Nat} (hA : 0 < len → ∃ b off q, a = some ⟨b, off, none⟩ ∧ Asks w b off len q) :
    Calls Tryd.prog 6 #[.slice a len cap] w fun e w' => e = .returned (.bool true) ∧ Below w.heap.size w w' := by
  have HA := hid_mk (alive_any hT)
  have HT := hid_mk hT
  have HQ := hid_mk hA
  clear hT hA
  go_enter Tryd.func6, Tryd.ntmps6
  go_wp2_with (go_at_call 9; refine HA.out.mono ?_; rintro e w1 ⟨rfl, ho⟩; have HO := hid_mk ho; clear ho)
  obtain ⟨B, hB⟩ : ∃ B, w1.heap.size = B := ⟨_, rfl⟩
  have h0 : 0 < B := by have := HT.out.lt; have := HO.out.size; omega
  obtain ⟨o0, hX0⟩ := heap_some (w := w1) (k := 0) (by omega)
  have S0 := St.first hB h0 hX0
  have HT1 := hid_mk (HT.out.quiet HO.out)
  have HTab : Hid (∀ w', Below B w1 w' → Tab w') := fun w' g => HT1.out.below g h0
  have HQ1 : Hid (0 < len → ∃ b off q, a = some ⟨b, off, none⟩ ∧ ∀ w', Below B w1 w' → Asks w' b off len q) := fun h => by
    obtain ⟨b, off, q, e, hq⟩ := HQ.out h
    exact ⟨b, off, q, e, fun w' g => (hq.kept HO.out.all (Nat.le_refl _)).kept g (Nat.le_of_eq hB)⟩
  have HB1 : Hid (Below B w1 (w1.alloc (.cells #[.slice none 0 0, .slice none 0 0, .slice none 0 0, .slice none 0 0] 32))) := (Below.refl _ _).alloc (Nat.le_of_eq hB.symm) _
  have HBw : Hid (w.heap.size ≤ B) := by show _ ≤ B; have := HO.out.size; omega
  rw [hB]
  obtain ⟨W2, hW2⟩ : ∃ W2, w1.alloc (.cells #[.slice none 0 0, .slice none 0 0, .slice none 0 0, .slice none 0 0] 32) = W2 := ⟨_, rfl⟩
  rw [hW2] at S0 HB1 ⊢
  have HS0 := hid_mk S0
  clear S0 hW2 hB hX0 HA
  go_loopw [4] (fun y wr => ∃ (i X nq nm : Nat) (o : Obj), i ≤ len ∧ i ≤ 100 ∧ y = .int .i64 i ∧ St B B X o wr nq nm ∧ nq ≤ 2 * i ∧ nm ≤ 18 * i ∧ Below B w1 wr) (fun y _ => 100 - (intOf y).toNat)
  case atStart => exact ⟨0, 0, 0, 0, o0, Nat.zero_le _, Nat.zero_le _, rfl, HS0.out, Nat.zero_le _, Nat.zero_le _, HB1.out⟩
  case round =>
    clear HS0 HB1
    obtain ⟨i, X0, nq, nm, oX, i1, i2, rfl, hst, hnq, hnm, hbl⟩ := hrel
    have b0 : (0 : Int) ≤ (i : Int) := by omega
    by_cases hgo : i < len ∧ i < 100
    · obtain ⟨g1, g2⟩ := hgo
      obtain ⟨b, off, q, rfl, hq⟩ := HQ1.out (by omega)
      obtain ⟨c0, c1, c2, c3, r1, r2⟩ := hq wr hbl i g1
      generalize (q i).1 = z0 at *
      generalize (q i).2.1 = z1 at *
      generalize (q i).2.2.1 = z2 at *
      generalize (q i).2.2.2 = z3 at *
      have b1 : (i : Int) < (len : Int) := by omega
      have b2 : (i : Int) < 100 := by omega
      have HSA := hid_mk (hst.box (.cells #[.int .i64 z0, .int .i64 z1, .int .i64 z2, .int .i64 z3] 34))
      have HbA : Hid (Below B w1 (wr.alloc (.cells #[.int .i64 z0, .int .i64 z1, .int .i64 z2, .int .i64 z3] 34))) := hbl.alloc hst.hB _
      obtain ⟨WA, hWA⟩ : ∃ WA, wr.alloc (.cells #[.int .i64 z0, .int .i64 z1, .int .i64 z2, .int .i64 z3] 34) = WA := ⟨_, rfl⟩
      obtain ⟨X, hX⟩ : ∃ X, wr.heap.size = X := ⟨_, rfl⟩
      rw [hWA] at HSA HbA
      rw [hX] at HSA
      have HR1 := hid_mk r1
      have HR2 := hid_mk r2
      have Hnq := hid_mk hnq
      have Hnm := hid_mk hnm
      obtain ⟨xA0, xA1, xA2, xA3⟩ := box_cells HSA.out.hX
      clear hst hnq hnm hbl hq r1 r2 HQ1
      go_wp2_with fail
      clear c0 c1 c2 c3 hWA
      refine (sized_any z1 z2 (HTab.out _ HbA.out)).mono ?_
      rintro e wB ⟨rfl, ho⟩
      have HSB := hid_mk (HSA.out.out ho)
      have HbB := hid_mk (HbA.out.trans (ho.all.mono HSA.out.hB))
      obtain ⟨xB0, xB1, xB2, xB3⟩ := box_cells HSB.out.hX
      clear ho xA0 xA1 xA2 xA3 HSA HbA
      go_wp2_with fail
      refine (told_any z1 z2 z3 (HTab.out _ HbB.out) HR1.out HR2.out).mono ?_
      rintro e wC ⟨rfl, ho⟩
      have HSC := hid_mk (HSB.out.out ho)
      have HbC := hid_mk (HbB.out.trans (ho.all.mono HSB.out.hB))
      obtain ⟨xC0, xC1, xC2, xC3⟩ := box_cells HSC.out.hX
      clear ho xB0 xB1 xB2 xB3 HSB HbB
      go_wp2_with fail
      refine (lfields_any z1 z2 (HTab.out _ HbC.out) HR1.out HR2.out).mono ?_
      rintro e wD ⟨rfl, ho⟩
      have HSD := hid_mk (HSC.out.out ho)
      have HbD := hid_mk (HbC.out.trans (ho.all.mono HSC.out.hB))
      obtain ⟨xD0, xD1, xD2, xD3⟩ := box_cells HSD.out.hX
      clear ho xC0 xC1 xC2 xC3 HSC HbC
      by_cases hk2 : z0 = 2
      · have hk : (z0 == 2) = true := by simpa using hk2
        clear hk2
        go_wp2_with fail
        refine (fields_any z1 z2 (HTab.out _ HbD.out) HR1.out HR2.out).mono ?_
        rintro e wE ⟨v1, rfl, hl1, ho1⟩
        have HQ1 := hid_mk (HSD.out.quietCall ho1 hl1 (flds_len _ _) (by have := Hnq.out; omega))
        have HbE := hid_mk (HbD.out.trans (ho1.all.mono HSD.out.hB))
        clear hl1 ho1 xD0 xD1 xD2 xD3
        go_wp2_with fail
        refine HQ1.out.mono ?_
        rintro e wF ⟨rfl, hs, hb⟩
        have HSF := hid_mk hs
        have HbF := hid_mk (HbE.out.trans hb)
        obtain ⟨xF0, xF1, xF2, xF3⟩ := box_cells HSF.out.hX
        clear hs hb HQ1 HbE HSD HbD
        go_wp2_with fail
        refine (fields_any z1 z2 (HTab.out _ HbF.out) HR1.out HR2.out).mono ?_
        rintro e wG ⟨v2, rfl, hl2, ho2⟩
        have HQ2 := hid_mk (HSF.out.quietCall ho2 hl2 (flds_len _ _) (by have := Hnq.out; omega))
        have HbG := hid_mk (HbF.out.trans (ho2.all.mono HSF.out.hB))
        clear hl2 ho2 xF0 xF1 xF2 xF3
        go_wp2_with fail
        refine HQ2.out.mono ?_
        rintro e wH ⟨rfl, hs, hb⟩
        have HSH := hid_mk hs
        have HbH := hid_mk (HbG.out.trans hb)
        obtain ⟨xH0, xH1, xH2, xH3⟩ := box_cells HSH.out.hX
        clear hs hb HQ2 HbG HSF HbF
        go_wp2_with fail
        refine (fields_any z1 z2 (HTab.out _ HbH.out) HR1.out HR2.out).mono ?_
        rintro e wI ⟨v3, rfl, hl3, ho3⟩
        have HQ3 := hid_mk (HSH.out.markedCall ho3 hl3 (flds_len _ _) (by have := Hnm.out; omega))
        have HbI := hid_mk (HbH.out.trans (ho3.all.mono HSH.out.hB))
        clear hl3 ho3 xH0 xH1 xH2 xH3
        go_wp2_with fail
        refine HQ3.out.mono ?_
        rintro e wJ ⟨rfl, hs, hb⟩
        have HSJ := hid_mk hs
        have HbJ := hid_mk (HbI.out.trans hb)
        clear hs hb HQ3 HbI HSH HbH
        go_wp2
        go_roundw
        case rel => exact ⟨i + 1, X, nq + 1 + 1, nm + 18, _, by omega, by omega, by go_num, HSJ.out, by have := Hnq.out; omega, by have := Hnm.out; omega, HbJ.out⟩
        case measure => simp [intOf]; omega
      · have hk : (z0 == 2) = false := by simpa using hk2
        clear hk2
        go_wp2
        go_roundw
        case rel => exact ⟨i + 1, X, nq, nm, _, by omega, by omega, by go_num, HSD.out, by have := Hnq.out; omega, by have := Hnm.out; omega, HbD.out⟩
        case measure => simp [intOf]; omega
    · have HAp := hid_mk (hst.apartCall (by omega) (by omega))
      have Hbl := hid_mk hbl
      clear hst hnq hnm hbl
      by_cases hil : i < len
      · have g1 : (i : Int) < (len : Int) := by omega
        have g2 : (100 : Int) ≤ (i : Int) := by omega
        clear hil hgo
        go_wp2_with (go_at_call 17; refine HAp.out.mono ?_; rintro e w9 ⟨rfl, hb⟩)
        go_ret
        exact ⟨rfl, HO.out.all.trans ((Hbl.out.trans hb).mono HBw.out)⟩
      · have g1 : (len : Int) ≤ (i : Int) := by omega
        clear hil hgo
        go_wp2_with (go_at_call 17; refine HAp.out.mono ?_; rintro e w9 ⟨rfl, hb⟩)
        go_ret
        exact ⟨rfl, HO.out.all.trans ((Hbl.out.trans hb).mono HBw.out)⟩
theorem cells_ask : Tryd.prog.cellsOf 34 = 4 := by kernel_rfl
end Go.Proofs.YtoajgbgmiionpaaDoor
