/- pages: leaves -/
import Derived.Test.YtfkmaanfgkkjcabDoorGa
namespace Go.Proofs.YtfkmaanfgkkjcabDoor
open Go.RowKit
set_option linter.unusedVariables false
set_option linter.unusedSimpArgs false

theorem list_cell {w : World} {b n cap : Nat} {a : Option Addr} (c0 : w.cell? ⟨b, 0, none⟩ = some (.slice a n cap)) :
    Calls Tryd.prog 15 #[.pointer (some ⟨b, 0, none⟩)] w fun e w' => e = .returned (.slice a n cap) ∧ w' = w := by
  go_enter Tryd.func15, Tryd.ntmps15
  go_wp2
  go_ret
  exact ⟨rfl, rfl⟩
theorem len_cell {w : World} {b n cap : Nat} {a : Option Addr} (c0 : w.cell? ⟨b, 0, none⟩ = some (.slice a n cap)) :
    Calls Tryd.prog 16 #[.pointer (some ⟨b, 0, none⟩)] w fun e w' => e = .returned (.int .i64 n) ∧ w' = w := by
  have H := hid_mk (list_cell c0)
  clear c0
  go_enter Tryd.func16, Tryd.ntmps16
  go_wp2_with (go_at_call 15; refine calls_same H.out ?_)
  go_ret
  exact ⟨rfl, rfl⟩
theorem PRow.page {w : World} {b n i : Nat} {S : Nat → Int × Int × Int} {x y z : Int} (h : PRow w b n S) (hi : i < n) (e : S i = (x, y, z)) :
    w.cell? ⟨b, i * 3, none⟩ = some (.int .i64 x) ∧ w.cell? ⟨b, i * 3 + 1, none⟩ = some (.int .i64 y) ∧ w.cell? ⟨b, i * 3 + 2, none⟩ = some (.int .i64 z) := by
  have := h.cells hi
  rw [e] at this
  exact this
theorem page_of (p : Int × Int × Int) : ∃ x y z, p = (x, y, z) := ⟨p.1, p.2.1, p.2.2, rfl⟩
set_option maxRecDepth 100000 in
set_option maxHeartbeats 4000000 in
theorem row_any {w : World} {b bw n cap : Nat} {S : Nat → Int × Int × Int} (c0 : w.cell? ⟨b, 0, none⟩ = some (.slice (some ⟨bw, 0, none⟩) n cap)) (hT : Tab w) (hn : 1 ≤ n ∧ n ≤ 4096) (hr : PRow w bw n S) (hg : Good n S) (k : Nat) (hk : 1 ≤ k) (hk2 : k ≤ 16) :
    Calls Tryd.prog 13 #[.pointer (some ⟨b, 0, none⟩), .int .i64 k] w fun e w' => e = .returned (.tuple #[.int .i64 ((rowF S n k).getD 0 : Nat), .bool (rowF S n k).isSome]) ∧ Out 0 0 w w' := by
  have H := hid_mk (list_cell c0)
  have HT := hid_mk hT
  have HR := hid_mk hr
  have HG := hid_mk hg
  have HN := hid_mk hn
  have HK : Hid (1 ≤ k ∧ k ≤ 16) := ⟨hk, hk2⟩
  obtain ⟨a, ha⟩ : ∃ a, rowF S n k = a := ⟨_, rfl⟩
  have HA := hid_mk ha
  rw [ha]
  clear c0 hT hr hg hn hk hk2 ha
  go_enter Tryd.func13, Tryd.ntmps13
  go_wp2_with (go_at_call 15; refine calls_same H.out ?_)
  go_loopw [6, 12] (fun x y wr => ∃ i f : Nat, i ≤ n ∧ x = .int .i64 f ∧ y = .int .i64 i ∧ RowInv S k i f ∧ Out 0 0 w wr) (fun _ y _ => n - (intOf y).toNat)
  case atStart => exact ⟨0, 0, Nat.zero_le _, rfl, rfl, RowInv.start S HK.out.1, Out.refl _ _ _⟩
  case round =>
    obtain ⟨i, f, i1, rfl, rfl, hv, ho⟩ := hrel
    have HV := hid_mk hv
    have HO := hid_mk ho
    obtain ⟨f0, f1, f2⟩ := (HT.out.quiet ho).f
    have b0 : (0 : Int) ≤ (i : Int) := by omega
    have b5 : (i : Int) ≤ 4096 := by have := HN.out; omega
    have b6 : (0 : Int) ≤ (f : Int) ∧ (f : Int) < 16 := by have := hv.2.1; have := HK.out; omega
    obtain ⟨b7, b8⟩ := b6
    by_cases hi : i < n
    · have b1 : (i : Int) < (n : Int) := by omega
      have HO2 : Hid (∀ c, Out 0 0 w (wr.alloc c)) := fun c => ho.alloc c
      obtain ⟨x, y, z, hp⟩ := page_of (S i)
      obtain ⟨q0, q1, q2⟩ := (HR.out.kept ho (.inr (Nat.zero_le _))).page hi hp
      obtain ⟨g0, g1, g2⟩ := (HT.out.quiet (ho.alloc (.cells #[.int .i64 x, .int .i64 y, .int .i64 z] 37))).f
      by_cases hf : freeB (S i) = true
      · have e := HG.out.free hi hf
        rw [hp] at e
        cases e
        by_cases hk : f + 1 = k
        · have hres := hv.found hf hk hi
          rw [HA.out] at hres
          subst hres
          have HE : Hid (f ≤ i) := hv.1
          subst hk
          clear hv ho hp hf HV HO
          go_wp2
          go_ret2
          refine ⟨ret_ib ?_ rfl, HO2.out _⟩
          show ((i : Int) + 1 - ((f : Int) + 1)) = ((i - f : Nat) : Int)
          have := HE.out
          omega
        · have HV2 := hid_mk (hv.more hf hk)
          have ek : ((f : Int) + 1 == (k : Int)) = false := by simp; omega
          clear hv ho hp hf HV HO hk
          go_wp2
          go_roundw
          case rel => exact ⟨i + 1, f + 1, by omega, by go_num, by go_num, HV2.out, HO2.out _⟩
          case measure => simp [intOf]; omega
      · have hf' : freeB (S i) = false := by simpa using hf
        have HV2 := hid_mk (hv.taken hf')
        have hx : (x == 0) = false := by have := hf'; rw [hp] at this; exact this
        clear hv ho hp hf HV HO hf'
        go_wp2
        go_roundw
        case rel => exact ⟨i + 1, 0, by omega, by go_num, by go_num, HV2.out, HO2.out _⟩
        case measure => simp [intOf]; omega
    · have : i = n := by omega
      subst this
      have hres := hv.none
      rw [HA.out] at hres
      subst hres
      clear hv ho hi HV
      go_wp2
      go_ret2
      exact ⟨rfl, HO.out⟩
end Go.Proofs.YtfkmaanfgkkjcabDoor
