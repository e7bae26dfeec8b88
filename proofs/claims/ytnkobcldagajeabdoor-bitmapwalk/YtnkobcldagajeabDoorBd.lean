/- seek, Next, Gap -/
import Derived.Test.YtnkobcldagajeabDoorBc
namespace Go.Proofs.YtnkobcldagajeabDoor
open Go.RowKit
set_option linter.unusedVariables false
set_option linter.unusedSimpArgs false

theorem seek_out {w : World} {lo hi b n : Nat} {S : Nat → Bool} (h : MapAt w lo hi b n S) (a : Int) (x : Int) (ha : (n : Int) ≤ a) :
    Calls Tryd.prog 30 #[.pointer (some ⟨b, 0, none⟩), .int .i64 a, .int .u64 x] w fun e w' => e = .returned (.int .i64 n) ∧ w' = w := by
  have H := hid_mk (len_any h)
  clear h
  go_enter Tryd.func30, Tryd.ntmps30
  go_wp2_with (go_at_call 23; refine calls_same H.out ?_)
  go_ret
  exact ⟨rfl, rfl⟩
/-- what is looked for: those that are in, or (fl) those that are out -/
def flp (S : Nat → Bool) (fl : Bool) : Nat → Bool := fun j => S j != fl
def flv (fl : Bool) : Nat := if fl then 18446744073709551615 else 0
theorem flv_lt (fl : Bool) : flv fl < 18446744073709551616 := by cases fl <;> decide
theorem pk_flp (S : Nat → Bool) (fl : Bool) (s : Nat) : bits .xor .u64 (pk S s) (flv fl) = pk (flp S fl) s := by
  rw [bits_xor_u64_nat _ _ (pk_lt _ _) (flv_lt _)]
  cases fl
  · show ((pk S s ^^^ 0 : Nat) : Int) = _
    rw [pk_flip0]
    rw [pk_congr (S := flp S false) (T := S) fun j _ => by simp [flp]]
  · show ((pk S s ^^^ 18446744073709551615 : Nat) : Int) = _
    rw [pk_flip1]
    rw [pk_congr (S := flp S true) (T := fun j => !S j) fun j _ => by simp [flp]]
theorem head_eq (T : Nat → Bool) (a : Nat) : bits .andNot .u64 (pk T (a / 64)) (IntKind.u64.wrap ((bitN a : Int) - 1)) = pk (from_ T a) (a / 64) := by
  have h1 := bitN_lt a
  have h2 := bitN_pos a
  have e : IntKind.u64.wrap ((bitN a : Int) - 1) = ((bitN a - 1 : Nat) : Int) := by rw [IntKind.wrap_u64]; omega
  rw [e, bits_andNot_u64_nat _ _ (pk_lt _ _) (by omega)]
  unfold bitN
  rw [pk_head]
set_option maxRecDepth 100000 in
set_option maxHeartbeats 2000000 in
theorem seek_in {w : World} {lo hi b n : Nat} {S : Nat → Bool} (h : MapAt w lo hi b n S) (a x : Nat) (fl : Bool) (hx : x = flv fl) (ha : a < n) :
    Calls Tryd.prog 30 #[.pointer (some ⟨b, 0, none⟩), .int .i64 a, .int .u64 x] w fun e w' => e = .returned (.int .i64 (nx (flp S fl) n a)) ∧ Out 0 0 w w' := by
  have hb5 := h.bounds
  have c0 := h.len
  obtain ⟨bw, cap, hb, hcap, l1, l2, l3, hr⟩ := h.words
  have c1 : w.cell? ⟨b, 1, none⟩ = some (.slice (some ⟨bw, 0, none⟩) (nw n) cap) := by simp [World.cell?, hb]
  have c2 := hr.cell (nw_lt ha)
  have HR := hid_mk hr
  have HH := hid_mk (len_any h)
  have HT := hid_mk h.tab
  have HB := hid_mk (fun w => bit_any a w (by omega))
  have HX := hid_mk (pk_flp S fl)
  rw [← hx] at HX
  clear hx
  have HE := hid_mk (head_eq (flp S fl) a)
  have HN : Hid (nw n * 64 < n + 64 ∧ n ≤ nw n * 64 ∧ nw n ≤ 4096) := by show _ ∧ _ ∧ _; unfold nw; omega
  have HA := hid_mk (nw_lt ha)
  have i1 : (0 : Int) ≤ (a : Int) := by omega
  have i5 : (a : Int) < (n : Int) := by omega
  obtain ⟨k, hk⟩ : ∃ k, a / 64 = k := ⟨_, rfl⟩
  have i3 : (k : Int) < (nw n : Int) := by have := nw_lt ha; omega
  have i4 : (0 : Int) ≤ (k : Int) := by omega
  have i7 : (k : Int) < 4096 := by omega
  have hk' : (a : Int) / 64 = (k : Int) := by omega
  have HK := hid_mk hk
  rw [hk] at c2 HE HA
  clear hk h hb hr l3 hb5 hcap l1 l2
  go_enter Tryd.func30, Tryd.ntmps30
  go_wp2_with (go_at_call 23; refine calls_same HH.out ?_)
  go_region_held3 (fun w' => w'.cell? ⟨b, 1, none⟩ = some (.slice (some ⟨bw, 0, none⟩) (nw n) cap) ∧ w'.cell? ⟨bw, k, none⟩ = some (.int .u64 (pk S k))) (go_keep)
    (first | (go_at_call 32; refine calls_same (HB.out _) ?_))
  rw [HX.out, HE.out]
  clear hk' c2
  go_wp2_with fail
  go_loop [7, 8] (fun t r => ∃ s : Nat, k ≤ s ∧ s < nw n ∧ t = .int .i64 s ∧ r = .int .u64 (pk (from_ (flp S fl) a) s) ∧ ∀ j, a ≤ j → j < 64 * s → flp S fl j = false) (fun t _ => nw n - (intOf t).toNat)
  case atStart => exact ⟨k, Nat.le_refl _, HA.out, rfl, rfl, fun j h1 h2 => by have := HK.out; omega⟩
  case round =>
    obtain ⟨s, hs1, hs2, rfl, rfl, hz⟩ := hrel
    have HZ := hid_mk hz
    have j1 : (s : Int) < (nw n : Int) := by omega
    have j2 : (0 : Int) ≤ (s : Int) := by omega
    have j3 : (s : Int) < 4096 := by have := HN.out; omega
    obtain ⟨r, hr⟩ : ∃ r, pk (from_ (flp S fl) a) s = r := ⟨_, rfl⟩
    have hrl : r < 18446744073709551616 := by rw [← hr]; exact pk_lt _ _
    rw [hr]
    have HQ := hid_mk hr
    have HL := hid_mk hrl
    have HG := hid_mk ha
    have HS := hid_mk hs1
    have HS2 := hid_mk hs2
    clear hz hr hrl ha hs1 hs2
    by_cases h0 : r = 0
    · subst h0
      by_cases h1 : s + 1 = nw n
      · have h2 : (((s : Int) + 1) == (nw n : Int)) = true := by rw [beq_iff_eq]; omega
        have HR1 := hid_mk h1
        clear h1 i3 j1
        go_wp2
        go_ret
        refine ⟨ret_int ?_, (Out.refl _ _ _).drew⟩
        rw [seek_none (seek_step HZ.out HQ.out) (by have := HN.out; have := HR1.out; omega)]
      · have h2 : (((s : Int) + 1) == (nw n : Int)) = false := by rw [beq_eq_false_iff_ne]; omega
        have h3 : (s : Int) + 1 < (nw n : Int) := by omega
        have c3 : w.cell? ⟨bw, s + 1, none⟩ = some (.int .u64 (pk S (s + 1))) := HR.out.cell (by omega)
        have HR1 := hid_mk h1
        clear h1
        go_wp2
        rw [HX.out, ← pk_tail (flp S fl) a (s + 1) (by have := HS.out; have := HK.out; omega)]
        go_round
        case rel => exact ⟨s + 1, by have := HS.out; omega, by have := HS2.out; have := HR1.out; omega, by go_num, rfl, seek_step HZ.out HQ.out⟩
        case measure => simp [intOf]; omega
    · have h2 : ((r : Int) == 0) = false := by rw [beq_eq_false_iff_ne]; omega
      have HC := hid_mk (fun w (hT : Tab w) => tz_any r HL.out h0 hT)
      have HV := hid_mk (seek_found (n := n) HG.out (by rw [HK.out]; exact HS.out) HZ.out (by rw [HQ.out]; exact h0))
      rw [HQ.out] at HV
      have hc6 : (Lib.ctz 64 r : Int) < 64 := by have := (ctz_spec r h0 HL.out).1; omega
      generalize Lib.ctz 64 r = c at *
      have hw1 : IntKind.i64.wrap ((s : Int) * 64) = (s : Int) * 64 := by simp [IntKind.wrap, IntKind.signed, IntKind.bits]; omega
      have hw2 : IntKind.i64.wrap ((s : Int) * 64 + (c : Int)) = (s : Int) * 64 + (c : Int) := by simp [IntKind.wrap, IntKind.signed, IntKind.bits]; omega
      by_cases hm : (n : Int) < (s : Int) * 64 + (c : Int)
      · go_wp2_with fail
        go_region_held3 (fun w' => w'.cell? ⟨b, 0, none⟩ = some (.int .i64 n)) (go_keep)
          (first | (go_at_call 35; refine calls_same (HC.out _ (by exact HT.out)) ?_))
        all_goals (try go_wp2)
        all_goals go_ret
        all_goals exact ⟨ret_int (by have := HV.out; omega), (Out.refl _ _ _).drew.drew⟩
      · go_wp2_with fail
        go_region_held3 (fun w' => w'.cell? ⟨b, 0, none⟩ = some (.int .i64 n)) (go_keep)
          (first | (go_at_call 35; refine calls_same (HC.out _ (by exact HT.out)) ?_))
        all_goals (try go_wp2)
        all_goals go_ret
        all_goals exact ⟨ret_int (by have := HV.out; omega), (Out.refl _ _ _).drew.drew⟩
theorem flp_in (S : Nat → Bool) : flp S false = S := by funext j; simp [flp]
theorem seek_any {w : World} {lo hi b n : Nat} {S : Nat → Bool} (h : MapAt w lo hi b n S) (a : Int) (x : Nat) (fl : Bool) (hx : x = flv fl) (ha : 0 ≤ a) :
    Calls Tryd.prog 30 #[.pointer (some ⟨b, 0, none⟩), .int .i64 a, .int .u64 x] w fun e w' => e = .returned (.int .i64 (nx (flp S fl) n a.toNat)) ∧ Out 0 0 w w' := by
  by_cases hn : a < n
  · obtain ⟨k, rfl⟩ := Int.eq_ofNat_of_zero_le ha
    rw [Int.toNat_natCast]
    exact seek_in h k x fl hx (by omega)
  · rw [nx_end _ _ _ (by omega)]
    exact (seek_out h a x (by omega)).mono fun e w' ⟨h1, h2⟩ => ⟨h1, by rw [h2]; exact Out.refl _ _ _⟩

set_option maxHeartbeats 1000000 in
theorem next_any {w : World} {lo hi b n : Nat} {S : Nat → Bool} (h : MapAt w lo hi b n S) (a : Int) :
    Calls Tryd.prog 14 #[.pointer (some ⟨b, 0, none⟩), .int .i64 a] w fun e w' => e = .returned (.int .i64 (nxr S n a.toNat)) ∧ Out 0 0 w w' := by
  have hS := seek_any h (max a 0) 0 false rfl (by omega)
  rw [flp_in, show (max a 0).toNat = a.toNat from by omega] at hS
  have HL := hid_mk (fun w (h : MapAt w lo hi b n S) => len_any h)
  have HM := hid_mk h
  have hle := nx_le S n a.toNat
  unfold nxr
  generalize nx S n a.toNat = r at *
  by_cases h0 : 0 ≤ a
  · rw [show max a 0 = a from by omega] at hS
    have HS := hid_mk hS
    clear hS h
    by_cases hr : r < n
    · rw [if_pos hr]
      have e : ((r : Int) == (n : Int)) = false := by rw [beq_eq_false_iff_ne]; omega
      go_enter Tryd.func14, Tryd.ntmps14
      go_wp2_with fail
      refine HS.out.mono ?_
      rintro e' w1 ⟨rfl, hg⟩
      have HG := hid_mk hg
      clear hg
      go_wp2_with (go_at_call 23; refine calls_same (HL.out _ (HM.out.quiet HG.out)) ?_)
      go_ret
      exact ⟨rfl, HG.out⟩
    · rw [if_neg hr]
      obtain rfl : r = n := by omega
      have e : ((r : Int) == (r : Int)) = true := by simp
      go_enter Tryd.func14, Tryd.ntmps14
      go_wp2_with fail
      refine HS.out.mono ?_
      rintro e' w1 ⟨rfl, hg⟩
      have HG := hid_mk hg
      clear hg
      go_wp2_with (go_at_call 23; refine calls_same (HL.out _ (HM.out.quiet HG.out)) ?_)
      go_ret
      exact ⟨rfl, HG.out⟩
  · rw [show max a 0 = 0 from by omega] at hS
    have HS := hid_mk hS
    clear hS h
    by_cases hr : r < n
    · rw [if_pos hr]
      have e : ((r : Int) == (n : Int)) = false := by rw [beq_eq_false_iff_ne]; omega
      go_enter Tryd.func14, Tryd.ntmps14
      go_wp2_with fail
      refine HS.out.mono ?_
      rintro e' w1 ⟨rfl, hg⟩
      have HG := hid_mk hg
      clear hg
      go_wp2_with (go_at_call 23; refine calls_same (HL.out _ (HM.out.quiet HG.out)) ?_)
      go_ret
      exact ⟨rfl, HG.out⟩
    · rw [if_neg hr]
      obtain rfl : r = n := by omega
      have e : ((r : Int) == (r : Int)) = true := by simp
      go_enter Tryd.func14, Tryd.ntmps14
      go_wp2_with fail
      refine HS.out.mono ?_
      rintro e' w1 ⟨rfl, hg⟩
      have HG := hid_mk hg
      clear hg
      go_wp2_with (go_at_call 23; refine calls_same (HL.out _ (HM.out.quiet HG.out)) ?_)
      go_ret
      exact ⟨rfl, HG.out⟩
end Go.Proofs.YtnkobcldagajeabDoor
