/- the document's own table -/
import Derived.Test.YtfkmaanfgkkjcaaDoorGg
namespace Go.Proofs.YtfkmaanfgkkjcaaDoor
open Go.RowKit
set_option linter.unusedVariables false
set_option linter.unusedSimpArgs false

set_option maxRecDepth 100000 in
set_option maxHeartbeats 4000000 in
theorem refState_any {w : World} {b bw n : Nat} {S : Nat → Int × Int × Int} (h : TblAt 61 w b bw n S) (i : Int) :
    Calls Tryd.prog 26 #[.pointer (some ⟨b, 0, none⟩), .int .i64 i] w fun e w' => e = .returned (.tuple #[pgV (stP S n i), .bool (inB n i)]) ∧ Out 0 0 w w' := by
  obtain ⟨cap, c0, hcap⟩ := h.cell
  have hn := h.nums
  have c1 := ((Out.refl 0 0 w).alloc (.cells #[.int .i64 0, .int .i64 0, .int .i64 0] 45)).cell c0 (.inr (Nat.zero_le _))
  by_cases hi : inB n i = true
  · unfold inB at hi
    simp at hi
    obtain ⟨k, rfl⟩ : ∃ k : Nat, i = k := ⟨i.toNat, by omega⟩
    have e1 : inB n (k : Int) = true := by unfold inB; simp; omega
    have e2 : stP S n (k : Int) = S k := by unfold stP; rw [e1]; rfl
    rw [e1, e2]
    obtain ⟨x, y, z, hp⟩ := page_of (S k)
    have hr := h.row.kept ((Out.refl 0 0 w).alloc (.cells #[.int .i64 0, .int .i64 0, .int .i64 0] 45)) (.inr (Nat.zero_le _))
    obtain ⟨q0, q1, q2⟩ := hr.page (by omega) hp
    have b0 : (0 : Int) ≤ (k : Int) := by omega
    have b1 : (k : Int) < (n : Int) := by omega
    have b2 : (n : Int) ≤ 4096 := by omega
    rw [hp]
    clear h hn e1 e2 hi hr hp c0
    go_enter Tryd.func26, Tryd.ntmps26
    go_wp2
    refine retPage2 (g := w.heap.size) Tryd.results26 rfl rfl rfl (heap_alloc_new _ _) ⟨rfl, (Out.refl _ _ _).alloc _⟩
  · have e1 : inB n i = false := by simpa using hi
    have e2 : stP S n i = (0, 0, 0) := by unfold stP; rw [e1]; rfl
    rw [e1, e2]
    unfold inB at hi
    simp at hi
    have b2 : (n : Int) ≤ 4096 := by omega
    by_cases h0 : 0 ≤ i
    · have b1 : (n : Int) ≤ i := by omega
      clear h hn e1 e2 hi c0
      go_enter Tryd.func26, Tryd.ntmps26
      go_wp2
      refine retPage2 (g := w.heap.size) Tryd.results26 rfl rfl rfl (heap_alloc_new _ _) ⟨rfl, (Out.refl _ _ _).alloc _⟩
    · have b1 : i < 0 := by omega
      clear h hn e1 e2 hi c0 h0
      go_enter Tryd.func26, Tryd.ntmps26
      go_wp2
      refine retPage2 (g := w.heap.size) Tryd.results26 rfl rfl rfl (heap_alloc_new _ _) ⟨rfl, (Out.refl _ _ _).alloc _⟩
set_option maxRecDepth 100000 in
set_option maxHeartbeats 4000000 in
theorem refFree_any {w : World} {b bw n : Nat} {S : Nat → Int × Int × Int} (h : TblAt 61 w b bw n S) :
    Calls Tryd.prog 27 #[.pointer (some ⟨b, 0, none⟩)] w fun e w' => e = .returned (.int .i64 (cntF S n : Nat)) ∧ w' = w := by
  obtain ⟨cap, c0, _⟩ := h.cell
  have HR := hid_mk h.row
  have HN := hid_mk h.nums
  clear h
  go_enter Tryd.func27, Tryd.ntmps27
  go_wp2_with fail
  go_loopw [3, 4] (fun x y wr => ∃ i : Nat, i ≤ n ∧ x = .int .i64 (cntF S i : Nat) ∧ y = .int .i64 i ∧ wr = w) (fun _ y _ => n - (intOf y).toNat)
  case atStart => exact ⟨0, Nat.zero_le _, rfl, rfl, rfl⟩
  case round =>
    obtain ⟨i, i1, rfl, rfl, rfl⟩ := hrel
    have b0 : (0 : Int) ≤ (i : Int) := by omega
    have b5 : (i : Int) ≤ 4096 := by have := HN.out; omega
    obtain ⟨c, hc⟩ : ∃ c, cntF S i = c := ⟨_, rfl⟩
    have b6 : (c : Int) ≤ 4096 := by have := cntF_le S i; omega
    have b7 : (0 : Int) ≤ (c : Int) := by omega
    by_cases hi : i < n
    · have b1 : (i : Int) < (n : Int) := by omega
      have HS := hid_mk (cntF_succ S i)
      obtain ⟨x, y, z, hp⟩ := page_of (S i)
      obtain ⟨q0, q1, q2⟩ := HR.out.page hi hp
      rw [hc] at HS ⊢
      cases hf : freeB (S i)
      · rw [hf] at HS
        have hx : (x == 0) = false := by rw [hp] at hf; exact hf
        clear hp hf hc
        go_wp2
        go_roundw
        case rel => exact ⟨i + 1, by omega, by rw [HS.out]; go_num, by go_num, trivial⟩
        case measure => simp [intOf]; omega
      · rw [hf] at HS
        have hx : (x == 0) = true := by rw [hp] at hf; exact hf
        clear hp hf hc
        go_wp2
        go_roundw
        case rel => exact ⟨i + 1, by omega, by rw [HS.out]; go_num, by go_num, trivial⟩
        case measure => simp [intOf]; omega
    · have : i = n := by omega
      subst this
      clear hi hc
      go_wp2
      go_ret
      exact ⟨rfl, rfl⟩
def rowI (o : Option Nat) : Int := match o with | some p => p | none => -1
set_option maxRecDepth 100000 in
set_option maxHeartbeats 4000000 in
theorem refRow_any {w : World} {b bw n : Nat} {S : Nat → Int × Int × Int} (h : TblAt 61 w b bw n S) (k : Nat) (hk : 1 ≤ k) (hk2 : k ≤ 16) :
    Calls Tryd.prog 42 #[.pointer (some ⟨b, 0, none⟩), .int .i64 k] w fun e w' => e = .returned (.int .i64 (rowI (rowF S n k))) ∧ w' = w := by
  obtain ⟨cap, c0, _⟩ := h.cell
  have HR := hid_mk h.row
  have HN := hid_mk h.nums
  have HK : Hid (1 ≤ k ∧ k ≤ 16) := ⟨hk, hk2⟩
  obtain ⟨a, ha⟩ : ∃ a, rowF S n k = a := ⟨_, rfl⟩
  have HA := hid_mk ha
  rw [ha]
  clear h hk hk2 ha
  go_enter Tryd.func42, Tryd.ntmps42
  go_wp2_with fail
  go_loopw [5, 6] (fun x y wr => ∃ i f : Nat, i ≤ n ∧ x = .int .i64 f ∧ y = .int .i64 i ∧ RowInv S k i f ∧ wr = w) (fun _ y _ => n - (intOf y).toNat)
  case atStart => exact ⟨0, 0, Nat.zero_le _, rfl, rfl, RowInv.start S HK.out.1, rfl⟩
  case round =>
    obtain ⟨i, f, i1, rfl, rfl, hv, rfl⟩ := hrel
    have b0 : (0 : Int) ≤ (i : Int) := by omega
    have b5 : (i : Int) ≤ 4096 := by have := HN.out; omega
    have b6 : (0 : Int) ≤ (f : Int) ∧ (f : Int) < 16 := by have := hv.2.1; have := HK.out; omega
    obtain ⟨b7, b8⟩ := b6
    by_cases hi : i < n
    · have b1 : (i : Int) < (n : Int) := by omega
      obtain ⟨x, y, z, hp⟩ := page_of (S i)
      obtain ⟨q0, q1, q2⟩ := HR.out.page hi hp
      cases hf : freeB (S i)
      · have HV2 := hid_mk (hv.taken hf)
        have hx : (x != 0) = true := by have h2 : (x == 0) = false := by rw [hp] at hf; exact hf
                                        simp at h2 ⊢; exact h2
        clear hv hp hf
        go_wp2
        go_roundw
        case rel => exact ⟨i + 1, 0, by omega, by go_num, by go_num, HV2.out, trivial⟩
        case measure => simp [intOf]; omega
      · have hx : (x != 0) = false := by have h2 : (x == 0) = true := by rw [hp] at hf; exact hf
                                         simp at h2 ⊢; exact h2
        by_cases hk : f + 1 = k
        · have hres := hv.found hf hk hi
          rw [HA.out] at hres
          subst hres
          have HE : Hid (f ≤ i) := hv.1
          subst hk
          clear hv hp hf
          go_wp2
          go_ret
          refine ⟨ret_int ?_, rfl⟩
          show ((i : Int) - ((f : Int) + 1) + 1) = ((i - f : Nat) : Int)
          have := HE.out
          omega
        · have HV2 := hid_mk (hv.more hf hk)
          have ek : ((f : Int) + 1 == (k : Int)) = false := by simp; omega
          clear hv hp hf hk
          go_wp2
          go_roundw
          case rel => exact ⟨i + 1, f + 1, by omega, by go_num, by go_num, HV2.out, trivial⟩
          case measure => simp [intOf]; omega
    · have : i = n := by omega
      subst this
      have hres := hv.none
      rw [HA.out] at hres
      subst hres
      clear hv hi
      go_wp2
      go_ret
      exact ⟨rfl, rfl⟩
end Go.Proofs.YtfkmaanfgkkjcaaDoor
