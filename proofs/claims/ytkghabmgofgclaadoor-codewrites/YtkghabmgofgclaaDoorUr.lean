/- package code: how many bytes a number has -/
import Derived.Test.YtkghabmgofgclaaDoorUq
namespace Go.Proofs.YtkghabmgofgclaaDoor
open Go.RowKit
set_option linter.unusedVariables false
set_option linter.unusedSimpArgs false

theorem slice_from (ba : Option Addr) (n cap a : Nat) (h : a ≤ n) (hc : n ≤ cap) : ∃ A' C', (∀ W, (Instr.sliceAt 33 (.slice ba n cap) (some (.int .i64 (a : Int))) none none).run Tryd.prog W = .ok (.slice A' (n - a) C') W) ∧ (A' = ba ∧ cap = a ∨ A' = ba.map (·.add a)) := by
  obtain ⟨i0, hi, hz0, hz1, hz2⟩ := info_p info_u8
  have hu : Tryd.prog.underlying 33 = some (.slice (Tryd.prog.elem 33)) := by kernel_rfl
  have he : Tryd.prog.elem 33 = 5 := by kernel_rfl
  have key : ∀ W, (Instr.sliceAt 33 (.slice ba n cap) (some (.int .i64 (a : Int))) none none).run Tryd.prog W = .ok (sliced ba a n cap 1) W := by
    intro W
    rw [run_sliceAt_slice W _ _ _ _ _ hu, run_slice_l W _ _ _ _ hu _ _ (by omega) (by omega), he]
    simp [sizeOf, typeInfo, hi, hz1, Result.andThen]
  refine ⟨if cap = a then ba else ba.map (·.add (a * 1)), cap - a, fun W => ?_, ?_⟩
  · rw [key W]
    unfold sliced
    rfl
  · by_cases hc : cap = a
    · exact .inl ⟨if_pos hc, hc⟩
    · right; rw [if_neg hc, Nat.mul_one]
theorem lead_up {L : List Int} {i : Nat} {b : Int} (h : i ≤ lead 9 L) (h9 : i < 9) (hb : L[i]? = some b) (hb2 : 128 ≤ b) : i + 1 ≤ lead 9 L := by
  rcases Nat.lt_or_ge i (lead 9 L) with q | q
  · omega
  · have e : lead 9 L = i := by omega
    have := lead_at 9 L b (by omega) (by rw [e]; exact hb)
    omega
theorem lead_stop {L : List Int} {i : Nat} {b : Int} (h : i ≤ lead 9 L) (hb : L[i]? = some b) (hb2 : b < 128) : lead 9 L = i := by
  rcases Nat.lt_or_ge i (lead 9 L) with q | q
  · have := lead_ge 9 L i b q hb
    omega
  · omega
set_option maxRecDepth 100000 in
set_option maxHeartbeats 1000000 in
theorem size_any {w : World} {r B n cap : Nat} {ba : Option Addr} {bs : List Int} {a : Nat} (h : RD w r B ba n cap bs a) :
    Calls Tryd.prog 98 #[.pointer (some ⟨r, 0, none⟩)] w fun e w' => Out 0 0 w w' ∧ ((lead 9 (bs.drop a) < 9 ∧ lead 9 (bs.drop a) < n - a) ∧ e = .returned (.int .i64 ((lead 9 (bs.drop a) + 1 : Nat) : Int)) ∨ ¬ (lead 9 (bs.drop a) < 9 ∧ lead 9 (bs.drop a) < n - a) ∧ (n - a < 9 ∧ e = .panicked [stopP 61 n] ∨ 9 ≤ n - a ∧ e = .panicked [stopP 60 a])) := by
  obtain ⟨h1, h2, h3, h4, h5, h6, h7⟩ := h
  have c0 := h1.cell (i := 0) rfl
  have c1 := h1.cell (i := 1) rfl
  obtain ⟨A', C', hsl, hA⟩ := slice_from ba n cap a h5 h6
  obtain ⟨L, hL⟩ : ∃ L, bs.drop a = L := ⟨_, rfl⟩
  obtain ⟨m, hm⟩ : ∃ m, n - a = m := ⟨_, rfl⟩
  have hlm : L.length = m := by rw [← hL, List.length_drop, h3, hm]
  have hin : ByIn w B A' L := by
    have := piece_in (k := m) h2 h3 (by omega) h6 hA
    rwa [hL, List.take_of_length_le (by omega)] at this
  rw [hL, hm]
  rw [hm] at hsl
  have HI := hid_mk hin
  have HL := hid_mk hlm
  have hd0 := (show Bl w.drew r _ _ from h1).cell (i := 0) rfl
  have hd1 := (show Bl w.drew r _ _ from h1).cell (i := 1) rfl
  clear h1 h2 h3 h4 h5 h6 h7 hA hL hm hlm hin
  go_enter Tryd.func98, Tryd.ntmps98
  go_wp2
  refine wp_region_held_drew (S := fun w' => w'.cell? ⟨r, 0, none⟩ = some (.slice ba n cap) ∧ w'.cell? ⟨r, 1, none⟩ = some (.int .i64 a)) (by kernel_rfl) ⟨c0, c1⟩ (fun hHeld => ?_)
  refine tk 0 ?_
  refine tk 1 ?_
  refine tk 2 ?_
  refine tk 3 ?_
  refine tk 4 ?_
  refine tk 5 ?_
  refine tk 6 ?_
  refine tk 7 ?_
  refine tk 8 ?_
  refine tk 9 ?_
  refine wpAnyH_done (by kernel_rfl) ?_ _
  clear hHeld
  by_cases hm9 : 9 < m
  · have g9 : (9 : Int) < (m : Int) := by omega
    go_wp2
    go_loopw [17] (fun x wr => ∃ i : Nat, x = .int .i64 i ∧ i ≤ 9 ∧ i ≤ lead 9 L ∧ wr = w.drew) (fun x _ => 9 - (intOf x).toNat)
    case atStart => exact ⟨0, rfl, Nat.zero_le _, Nat.zero_le _, rfl⟩
    case round =>
      obtain ⟨i, rfl, hiM, hil, rfl⟩ := hrel
      by_cases hgo : i < 9
      · have g1 : (i : Int) < (9 : Int) := by omega
        obtain ⟨b, hb⟩ : ∃ b, L[i]? = some b := ⟨_, List.getElem?_eq_getElem (by have := HL.out; omega)⟩
        have HX := hid_mk hb
        have HB0 := hid_mk (HI.out.1 b (List.mem_of_getElem? hb))
        rcases HI.out.2 with h0 | ⟨g, off, rfl, hg, hc⟩
        · rw [h0] at hb; cases hb
        have d0 : w.drew.cell? ⟨g, off + i, none⟩ = some (.int .u8 b) := hc i b hb
        have g2 : (i : Int) < (m : Int) := by omega
        clear hb hc hg
        by_cases hb2 : b < 128
        · have hlt : decide (b < 128) = true := by simpa using hb2
          have Hil := hid_mk hil
          have Hb2 := hid_mk hb2
          clear hil hb2
          go_wp2
          go_ret
          exact ⟨(Out.refl 0 0 w).drew, .inl ⟨by rw [lead_stop Hil.out HX.out Hb2.out]; omega, by rw [lead_stop Hil.out HX.out Hb2.out]; rfl⟩⟩
        · have hlt : decide (b < 128) = false := by simpa using hb2
          have Hil := hid_mk hil
          have Hb2 := hid_mk hb2
          clear hil hb2
          go_wp2
          go_roundw
          case rel => exact ⟨i + 1, by go_num, by omega, lead_up Hil.out (by omega) HX.out (by have := Hb2.out; omega), trivial⟩
          case measure => simp [intOf]; omega
      · have hiE : i = 9 := by omega
        have g1 : ¬ ((i : Int) < (9 : Int)) := by omega
        have HN : Hid (¬ (lead 9 L < 9 ∧ lead 9 L < m)) := hid_mk (by omega)
        clear hgo hil hiM
        subst hiE
        have hd9 : decide ((9 : Int) ≤ (m : Int)) = true := by simp; omega
        have H9 : Hid (9 ≤ m) := hid_mk (by omega)
        go_wp2_with (go_at_call 40; refine calls_same (want_yes _ _ _) ?_)
        exact ⟨rfl, (Out.refl 0 0 w).drew, .inr ⟨HN.out, .inr ⟨H9.out, rfl⟩⟩⟩
  · have g9 : (m : Int) ≤ 9 := by omega
    go_wp2
    go_loopw [17] (fun x wr => ∃ i : Nat, x = .int .i64 i ∧ i ≤ m ∧ i ≤ lead 9 L ∧ wr = w.drew) (fun x _ => m - (intOf x).toNat)
    case atStart => exact ⟨0, rfl, Nat.zero_le _, Nat.zero_le _, rfl⟩
    case round =>
      obtain ⟨i, rfl, hiM, hil, rfl⟩ := hrel
      by_cases hgo : i < m
      · have g1 : (i : Int) < (m : Int) := by omega
        obtain ⟨b, hb⟩ : ∃ b, L[i]? = some b := ⟨_, List.getElem?_eq_getElem (by have := HL.out; omega)⟩
        have HX := hid_mk hb
        have HB0 := hid_mk (HI.out.1 b (List.mem_of_getElem? hb))
        rcases HI.out.2 with h0 | ⟨g, off, rfl, hg, hc⟩
        · rw [h0] at hb; cases hb
        have d0 : w.drew.cell? ⟨g, off + i, none⟩ = some (.int .u8 b) := hc i b hb
        have g2 : (i : Int) < (m : Int) := by omega
        clear hb hc hg
        by_cases hb2 : b < 128
        · have hlt : decide (b < 128) = true := by simpa using hb2
          have Hil := hid_mk hil
          have Hb2 := hid_mk hb2
          clear hil hb2
          go_wp2
          go_ret
          exact ⟨(Out.refl 0 0 w).drew, .inl ⟨by rw [lead_stop Hil.out HX.out Hb2.out]; omega, by rw [lead_stop Hil.out HX.out Hb2.out]; rfl⟩⟩
        · have hlt : decide (b < 128) = false := by simpa using hb2
          have Hil := hid_mk hil
          have Hb2 := hid_mk hb2
          clear hil hb2
          go_wp2
          go_roundw
          case rel => exact ⟨i + 1, by go_num, by omega, lead_up Hil.out (by omega) HX.out (by have := Hb2.out; omega), trivial⟩
          case measure => simp [intOf]; omega
      · have hiE : i = m := by omega
        have g1 : ¬ ((i : Int) < (m : Int)) := by omega
        have HN : Hid (¬ (lead 9 L < 9 ∧ lead 9 L < m)) := hid_mk (by omega)
        clear hgo hil hiM
        subst hiE
        by_cases he9 : 9 ≤ i
        · have hd9 : decide ((9 : Int) ≤ (i : Int)) = true := by simp; omega
          have H9 : Hid (9 ≤ i) := hid_mk (by omega)
          go_wp2_with (go_at_call 40; refine calls_same (want_yes _ _ _) ?_)
          exact ⟨rfl, (Out.refl 0 0 w).drew, .inr ⟨HN.out, .inr ⟨H9.out, rfl⟩⟩⟩
        · have hd9 : decide ((9 : Int) ≤ (i : Int)) = false := by simp; omega
          have H9 : Hid (i < 9) := hid_mk (by omega)
          go_wp2_with (go_at_call 40; refine calls_stop (want_no _ _ _) ?_)
          exact ⟨rfl, (Out.refl 0 0 w).drew, .inr ⟨HN.out, .inl ⟨H9.out, rfl⟩⟩⟩
end Go.Proofs.YtkghabmgofgclaaDoor
