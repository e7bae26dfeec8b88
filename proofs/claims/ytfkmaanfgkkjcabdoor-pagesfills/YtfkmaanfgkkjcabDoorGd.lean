/- pages: what changes -/
import Derived.Test.YtfkmaanfgkkjcabDoorGc
namespace Go.Proofs.YtfkmaanfgkkjcabDoor
open Go.RowKit
set_option linter.unusedVariables false
set_option linter.unusedSimpArgs false

theorem rowF_pages {S : Nat → Int × Int × Int} {n k p : Nat} (hg : Good n S) (h : rowF S n k = some p) : p < n ∧ p + k ≤ n ∧ ∀ j, p ≤ j → j < p + k → S j = (0, 0, 0) := by
  obtain ⟨h1, h2, h3, _⟩ := rowF_some h
  exact ⟨h1, h2, fun j j1 j2 => hg.free (by omega) (allF_iff.1 h3 j j1 j2)⟩
theorem setC_eq (S : Nat → Int × Int × Int) (p : Nat) (c : Int) : setC S p c = setP S p (1, c, 0) := rfl
theorem setR_eq (S : Nat → Int × Int × Int) (p k : Nat) (h : 1 ≤ k) : setR S p k = putA (setP S p (2, 0, (k : Int))) (p + 1) (k - 1) (3, 0, 0) := by
  funext j
  unfold setR putA setP
  by_cases e : j = p
  · rw [if_pos e, if_neg (by omega), if_pos e]
  · rw [if_neg e]
    by_cases h2 : p < j ∧ j < p + k
    · rw [if_pos h2, if_pos (by omega)]
    · rw [if_neg h2, if_neg (by omega), if_neg e]
theorem setF_eq (S : Nat → Int × Int × Int) (p k : Nat) : setF S p k = putA S p k (0, 0, 0) := rfl
set_option maxRecDepth 100000 in
set_option maxHeartbeats 4000000 in
theorem takeClass_any {w : World} {b bw n : Nat} {S : Nat → Int × Int × Int} (h : TblAt 35 w b bw n S) (hT : Tab w) (c : Int) :
    Calls Tryd.prog 7 #[.pointer (some ⟨b, 0, none⟩), .int .i64 c] w fun e w' => e = .returned (.tuple #[.int .i64 (tcP S n c : Nat), .int .i64 (tcE S n c)]) ∧ TblAt 35 w' b bw n (tcS S n c) ∧ Out bw (bw + 1) w w' := by
  have hn := h.nums
  have HW := hid_mk (words_any c w)
  have HH := hid_mk h
  have HT := hid_mk hT
  by_cases hc : classB c = true
  · rw [hc] at HW
    unfold tcP tcE tcS
    rw [if_pos hc, if_pos hc, if_pos hc]
    have HR : Hid (∀ w', Out 0 0 w w' → Calls Tryd.prog 13 #[.pointer (some ⟨b, 0, none⟩), .int .i64 1] w' fun e w' => e = .returned (.tuple #[.int .i64 ((rowF S n 1).getD 0 : Nat), .bool (rowF S n 1).isSome]) ∧ Out 0 0 w w') := fun w' ho => by
      obtain ⟨cap, c0, _⟩ := (HH.out.quiet ho).cell
      exact (row_any c0 (HT.out.quiet ho) ⟨hn.1, hn.2.1⟩ (HH.out.quiet ho).row HH.out.good 1 (by omega) (by omega)).mono fun e w' ⟨a, b⟩ => ⟨a, ho.trans b⟩
    cases hf : rowF S n 1 with
    | none =>
      rw [hf] at HR
      clear hn h hT hc hf
      go_enter Tryd.func7, Tryd.ntmps7
      go_wp2_with (first | (go_at_call 12; refine HW.out.mono ?_; rintro e w1 ⟨v, rfl, hv, ho⟩; have HO := hid_mk ho; have hv2 : (v == 0) = false := hv; clear hv ho) | (go_at_call 13; refine (HR.out _ HO.out).mono ?_; rintro e w2 ⟨rfl, ho⟩))
      go_ret2
      exact ⟨rfl, HH.out.quiet ho, ho.any _ _⟩
    | some p =>
      rw [hf] at HR
      obtain ⟨p1, p2, p3⟩ := rowF_pages HH.out.good hf
      have p4 := p3 p (Nat.le_refl _) (by omega)
      have HG := hid_mk (good_setC HH.out.good p4 (by unfold classB at hc; simp at hc; exact hc.1) (by unfold classB at hc; simp at hc; exact hc.2))
      have b0 : (0 : Int) ≤ (p : Int) := by omega
      have b1 : (p : Int) < (n : Int) := by omega
      have b2 : (n : Int) ≤ 4096 := by omega
      have HP := hid_mk p1
      have HP4 := hid_mk p4
      clear hn h hT hc hf p1 p2 p3 p4
      go_enter Tryd.func7, Tryd.ntmps7
      go_wp2_with (first | (go_at_call 12; refine HW.out.mono ?_; rintro e w1 ⟨v, rfl, hv, ho⟩; have HO := hid_mk ho; have hv2 : (v == 0) = false := hv; clear hv ho) | (go_at_call 13; refine (HR.out _ HO.out).mono ?_; rintro e w2 ⟨rfl, ho⟩; obtain ⟨cap, c0, hcap⟩ := (HH.out.quiet ho).cell; obtain ⟨q0, q1, q2⟩ := (HH.out.quiet ho).row.page HP.out HP4.out; have fz0 := Row.frozen (HH.out.quiet ho).row (p * 3); have fz1 := Row.frozen (HH.out.quiet ho).row (p * 3 + 1); have fz2 := Row.frozen (HH.out.quiet ho).row (p * 3 + 2); have HO2 := hid_mk ho; clear ho))
      go_ret2
      have hr := (HH.out.quiet HO2.out).row.set p 1 c 0
      have ho3 : Out bw (bw + 1) w (((w2.setCell ⟨bw, p * 3, none⟩ (.int .i64 1)).setCell ⟨bw, p * 3 + 1, none⟩ (.int .i64 c)).setCell ⟨bw, p * 3 + 2, none⟩ (.int .i64 0)) := (HO2.out.any _ _).set3 (.inl ⟨Nat.le_refl _, Nat.lt_succ_self _⟩) _ _ _
      exact ⟨rfl, HH.out.turn ho3 hr HG.out, ho3⟩
  · have hc' : classB c = false := by simpa using hc
    rw [hc'] at HW
    unfold tcP tcE tcS
    rw [if_neg hc, if_neg hc, if_neg hc]
    clear hn h hT hc hc'
    go_enter Tryd.func7, Tryd.ntmps7
    go_wp2_with (go_at_call 12; refine HW.out.mono ?_; rintro e w1 ⟨v, rfl, hv, ho⟩; have HO := hid_mk ho; have hv2 : (v == 0) = true := hv; clear hv ho)
    go_ret2
    exact ⟨rfl, HH.out.quiet HO.out, HO.out.any _ _⟩
end Go.Proofs.YtfkmaanfgkkjcabDoor
