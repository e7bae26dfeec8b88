/- the laws' own parts -/
import Derived.Test.YtoajgbgmiionpaaDoorYi
namespace Go.Proofs.YtoajgbgmiionpaaDoor
open Go.RowKit
set_option linter.unusedVariables false
set_option linter.unusedSimpArgs false

/-- a slice whose elements are those of l -/
def SliceIs (w : World) (v : Value) (l : List Nat) : Prop := ∃ a cap, v = .slice a l.length cap ∧ (0 < l.length → ∃ g, a = some ⟨g, 0, none⟩ ∧ g < w.heap.size ∧ ∀ i (hi : i < l.length), w.cell? ⟨g, i, none⟩ = some (.int .i64 (l[i] : Nat)))
theorem ListIs.slice {w : World} {v : Value} {base : Nat} {l : List Nat} (h : ListIs w base v l) : SliceIs w v l := by
  obtain ⟨a, cap, e, hr⟩ := own_open h
  exact ⟨a, cap, e, fun h0 => by obtain ⟨g, g0, _, g2, g3⟩ := hr h0; exact ⟨g, g0, g2, g3⟩⟩
theorem SliceIs.kept {w w' : World} {v : Value} {l : List Nat} (h : SliceIs w v l) (o : Out 0 0 w w') : SliceIs w' v l := by
  obtain ⟨a, cap, e, hr⟩ := h
  exact ⟨a, cap, e, fun h0 => by obtain ⟨g, g0, g2, g3⟩ := hr h0; exact ⟨g, g0, Nat.lt_of_lt_of_le g2 o.size, fun i hi => o.cell (g3 i hi) (.inr (Nat.zero_le _))⟩⟩
set_option maxHeartbeats 1000000 in
theorem same_any {w : World} {a b : Value} {l : List Nat} (ha : SliceIs w a l) (hb : SliceIs w b l) (hl : l.length ≤ 20000) : Calls Tryd.prog 12 #[a, b] w fun e w' => e = .returned (.bool true) ∧ Out 0 0 w w' := by
  obtain ⟨aa, ca, rfl, ra⟩ := ha
  obtain ⟨ab, cb, rfl, rb⟩ := hb
  have RA := hid_mk ra
  have RB := hid_mk rb
  have HL := hid_mk hl
  obtain ⟨n, hn⟩ : ∃ n, l.length = n := ⟨_, rfl⟩
  rw [hn]
  have HN := hid_mk hn
  have he : ((n : Int) != (n : Int)) = false := by simp
  clear ra rb hl hn
  go_enter Tryd.func12, Tryd.ntmps12
  go_wp2
  go_loopw [5] (fun x wr => ∃ i : Nat, i ≤ n ∧ x = .int .i64 i ∧ Out 0 0 w wr) (fun x _ => n - (intOf x).toNat)
  case atStart => exact ⟨0, Nat.zero_le _, rfl, Out.refl _ _ _⟩
  case round =>
    obtain ⟨i, i1, rfl, ho⟩ := hrel
    have HO := hid_mk ho
    by_cases hi : i < n
    · have hi' : i < l.length := by rw [HN.out]; exact hi
      obtain ⟨g, rfl, g1, g2⟩ := RA.out (by omega)
      obtain ⟨g', rfl, g1', g2'⟩ := RB.out (by omega)
      have c1 := ho.cell (g2 i hi') (.inr (Nat.zero_le _))
      have c2 := ho.cell (g2' i hi') (.inr (Nat.zero_le _))
      generalize l[i] = y at *
      have hy : ((y : Int) != (y : Int)) = false := by simp
      have b0 : (0 : Int) ≤ (i : Int) := by omega
      have b1 : (i : Int) < (n : Int) := by omega
      have b2 : (n : Int) ≤ 20000 := by have := HL.out; have := HN.out; omega
      clear g2 g2' RA RB hi' ho
      go_wp2_with fail
      go_region
      all_goals go_wp2
      all_goals go_roundw
      case rel => exact ⟨i + 1, by omega, by go_num, HO.out.drew⟩
      case measure => simp [intOf]; omega
    · have : i = n := by omega
      subst this
      clear ho
      go_wp2
      go_ret
      exact ⟨rfl, HO.out⟩
theorem fl_13 : flds 13 4 = [1, 2, 3] := by decide
theorem alive_any {w : World} (hT : Tab w) : Calls Tryd.prog 9 #[] w fun e w' => e = .returned (.bool true) ∧ Out 0 0 w w' := by
  have HS := hid_mk (size_any 4 9 hT)
  rw [show sizeV 4 9 = 4 from by decide, show sizeB 4 9 = true from by decide] at HS
  have HF := hid_mk (fields_any 13 4 hT (by decide) (by decide))
  rw [fl_13] at HF
  have HT := hid_mk hT
  clear hT
  go_enter Tryd.func9, Tryd.ntmps9
  go_wp2_with (go_at_call 18; refine calls_same HS.out ?_)
  refine HF.out.mono ?_
  rintro e w1 ⟨v, rfl, hl, ho⟩
  obtain ⟨a, cap, rfl, hr⟩ := hl.slice
  obtain ⟨g, rfl, g1, g2⟩ := hr (by decide)
  have c2 : w1.cell? ⟨g, 2, none⟩ = some (.int .i64 3) := g2 2 (by decide)
  have HR := hid_mk (roles_any 13 4 3 (HT.out.quiet ho) (by decide) (by decide))
  rw [show roleV 13 4 3 = 9 from by decide] at HR
  rw [show [1, 2, 3].length = 3 from rfl]
  have HO := hid_mk ho
  clear hl hr g2 ho HF HS
  go_wp2_with (go_at_call 22; refine calls_same HR.out ?_)
  go_ret
  exact ⟨rfl, HO.out⟩
theorem sized_any (k n : Int) {w : World} (hT : Tab w) : Calls Tryd.prog 10 #[.int .i64 k, .int .i64 n] w fun e w' => e = .returned (.bool true) ∧ Out 0 0 w w' := by
  have HS := hid_mk (size_any k n hT)
  have HR := hid_mk (refSize_any k n)
  have V1 := hid_mk (visible_any k)
  have V2 := hid_mk (refVisible_any k)
  have N1 := hid_mk (numbered_any k)
  have N2 := hid_mk (refNumbered_any k)
  clear hT
  generalize sizeV k n = v at *
  generalize sizeB k n = b at *
  generalize (decide (1 ≤ k) && decide (k ≤ 10)) = vb at *
  generalize (decide (1 ≤ k) && decide (k ≤ 11)) = nb at *
  have e1 : (v == v) = true := by simp
  have e2 : (b == b) = true := by simp
  have e3 : (vb == vb) = true := by simp
  have e4 : (nb == nb) = true := by simp
  go_enter Tryd.func10, Tryd.ntmps10
  go_wp2_with (first | (go_at_call 18; refine calls_same HS.out ?_) | (go_at_call 23; refine (HR.out _).mono ?_; rintro e w1 ⟨rfl, ho⟩; have HO := hid_mk ho; clear ho) | (go_at_call 20; refine calls_same (V1.out _) ?_) | (go_at_call 24; refine calls_same (V2.out _) ?_) | (go_at_call 21; refine calls_same (N1.out _) ?_) | (go_at_call 25; refine calls_same (N2.out _) ?_))
  all_goals go_ret
  all_goals exact ⟨rfl, HO.out⟩
theorem told_any (k s i : Int) {w : World} (hT : Tab w) (s1 : -9223372036854775808 ≤ s) (s2 : s ≤ 9223372036854775807) : Calls Tryd.prog 11 #[.int .i64 k, .int .i64 s, .int .i64 i] w fun e w' => e = .returned (.bool true) ∧ Out 0 0 w w' := by
  have HF := hid_mk (fits_any k s hT s1 s2)
  have HG := hid_mk (fun w => refFits_any k s w s1 s2)
  have HR := hid_mk (fun w (hT : Tab w) => roles_any k s i hT s1 s2)
  have HQ := hid_mk (fun w => refRole_any k s i w s1 s2)
  have HT := hid_mk hT
  clear hT s1 s2
  generalize fitsB k s = f at *
  generalize roleV k s i = r at *
  have e1 : (f == f) = true := by simp
  have e2 : (r == r) = true := by simp
  go_enter Tryd.func11, Tryd.ntmps11
  go_wp2_with (first | (go_at_call 19; refine calls_same HF.out ?_) | (go_at_call 26; refine (HG.out _).mono ?_; rintro e w1 ⟨rfl, ho⟩; have HO := hid_mk ho; clear ho) | (go_at_call 22; refine calls_same (HR.out _ (HT.out.quiet HO.out)) ?_) | (go_at_call 27; refine (HQ.out _).mono ?_; rintro e w2 ⟨rfl, ho⟩; have HO2 := hid_mk (HO.out.trans ho); clear ho))
  all_goals go_ret
  all_goals exact ⟨rfl, HO2.out⟩
theorem flds_len (k s : Int) : (flds k s).length ≤ 1024 := by
  unfold flds
  split
  · rename_i h
    have := fits_le h
    have := fl_len k s.toNat
    omega
  · simp
theorem sizes_any (k n : Int) {w : World} (hT : Tab w) : Calls Tryd.prog 3 #[.int .i64 k, .int .i64 n] w fun e w' => e = .returned (.bool true) ∧ Out 0 0 w w' := by
  have HA := hid_mk (alive_any hT)
  have HS := hid_mk (fun w (hT : Tab w) => sized_any k n hT)
  have HT := hid_mk hT
  clear hT
  go_enter Tryd.func3, Tryd.ntmps3
  go_wp2_with (first | (go_at_call 9; refine HA.out.mono ?_; rintro e w1 ⟨rfl, ho⟩; have HO := hid_mk ho; clear ho) | (go_at_call 10; refine (HS.out _ (HT.out.quiet HO.out)).mono ?_; rintro e w2 ⟨rfl, ho⟩; have HO2 := hid_mk (HO.out.trans ho); clear ho))
  go_ret
  exact ⟨rfl, HO2.out⟩
theorem lroles_any (k s i : Int) {w : World} (hT : Tab w) (s1 : -9223372036854775808 ≤ s) (s2 : s ≤ 9223372036854775807) : Calls Tryd.prog 4 #[.int .i64 k, .int .i64 s, .int .i64 i] w fun e w' => e = .returned (.bool true) ∧ Out 0 0 w w' := by
  have HA := hid_mk (alive_any hT)
  have HS := hid_mk (fun w (hT : Tab w) => told_any k s i hT s1 s2)
  have HT := hid_mk hT
  clear hT s1 s2
  go_enter Tryd.func4, Tryd.ntmps4
  go_wp2_with (first | (go_at_call 9; refine HA.out.mono ?_; rintro e w1 ⟨rfl, ho⟩; have HO := hid_mk ho; clear ho) | (go_at_call 11; refine (HS.out _ (HT.out.quiet HO.out)).mono ?_; rintro e w2 ⟨rfl, ho⟩; have HO2 := hid_mk (HO.out.trans ho); clear ho))
  go_ret
  exact ⟨rfl, HO2.out⟩
theorem lfields_any (k s : Int) {w : World} (hT : Tab w) (s1 : -9223372036854775808 ≤ s) (s2 : s ≤ 9223372036854775807) : Calls Tryd.prog 5 #[.int .i64 k, .int .i64 s] w fun e w' => e = .returned (.bool true) ∧ Out 0 0 w w' := by
  have HA := hid_mk (alive_any hT)
  have HF := hid_mk (fun w (hT : Tab w) => fields_any k s hT s1 s2)
  have HG := hid_mk (fun w => refFields_any k s w s1 s2)
  have HT := hid_mk hT
  have HL := hid_mk (flds_len k s)
  clear hT s1 s2
  generalize flds k s = l at *
  go_enter Tryd.func5, Tryd.ntmps5
  go_wp2_with (first | (go_at_call 9; refine HA.out.mono ?_; rintro e w1 ⟨rfl, ho⟩; have HO := hid_mk ho; clear ho) | (go_at_call 13; refine (HF.out _ (HT.out.quiet HO.out)).mono ?_; rintro e w2 ⟨v, rfl, hl, ho⟩; have HO2 := hid_mk (HO.out.trans ho); have HL2 := hid_mk hl.slice; clear ho hl) | (go_at_call 14; refine (HG.out _).mono ?_; rintro e w3 ⟨v', rfl, hl, ho⟩; have HO3 := hid_mk (HO2.out.trans ho); have HL3 := hid_mk hl.slice; have HL4 := hid_mk (HL2.out.kept ho); clear ho hl) | (go_at_call 12; refine (same_any HL4.out HL3.out (by have := HL.out; omega)).mono ?_; rintro e w4 ⟨rfl, ho⟩; have HO4 := hid_mk (HO3.out.trans ho); clear ho))
  go_ret
  exact ⟨rfl, HO4.out⟩
end Go.Proofs.YtoajgbgmiionpaaDoor
