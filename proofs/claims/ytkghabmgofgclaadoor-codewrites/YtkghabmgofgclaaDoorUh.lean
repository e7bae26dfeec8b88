/- package code: numbers are written -/
import Derived.Test.YtkghabmgofgclaaDoorUg
namespace Go.Proofs.YtkghabmgofgclaaDoor
open Go.RowKit
set_option linter.unusedVariables false
set_option linter.unusedSimpArgs false

theorem one_byte (w : World) {b : Int} (h0 : 0 ≤ b) (h1 : b ≤ 255) : BytesAt (w.alloc (.cells #[.int .u8 b] 5)) (some ⟨w.heap.size, 0, none⟩) [b] :=
  ⟨Byt.cons h0 h1 Byt.nil, .inr ⟨w.heap.size, 0, rfl, fun j c hj => by
    match j, hj with
    | 0, hj => cases hj; exact (Bl.new w #[.int .u8 b] 5).cell (i := 0) rfl
    | j + 1, hj => simp at hj⟩⟩
/-- one byte is put down -/
theorem put_one {w : World} {p H : Nat} {o : Option Nat} {F : List Int} {b c : Int} (h : WR w p o F) (h0 : 0 ≤ b) (h1 : b ≤ 255) (hbc : c = b) (hH : w.heap.size = H) :
    Calls Tryd.prog 61 #[.pointer (some ⟨p, 0, none⟩), .slice (some ⟨H, 0, none⟩) 1 1] (w.alloc (.cells #[.int .u8 c] 5)) fun e w' => e = .returned (.tuple #[]) ∧ ∃ o', WR w' p o' (F ++ [b]) ∧ St p o w o' w' := by
  subst hbc hH
  exact (put_any (n := 1) (h.alloc _) (one_byte w h0 h1) rfl (by omega)).mono fun e w' ⟨he, o', h2, h3⟩ => ⟨he, o', h2, ((St.refl p o w).alloc _).trans h3⟩
theorem num_q {m n : Nat} (h : (n : Int) ≤ 9223372036854775807) (hm : m ≤ n) : wrap64 ((m : Int) / 128) = (m : Int) / 128 := by unfold wrap64; omega
theorem num_v {m n : Nat} (h : (n : Int) ≤ 9223372036854775807) (hm : m ≤ n) : Value.int .i64 (wrap64 ((m : Int) / 128)) = .int .i64 ((m / 128 : Nat) : Int) := by rw [num_q h hm]; simp
theorem num_m {m n : Nat} (h : (n : Int) ≤ 9223372036854775807) (hm : m ≤ n) (h1 : 128 ≤ m) : (wrap64 ((m : Int) / 128)).toNat < m := by rw [num_q h hm]; omega
theorem num_le {m n : Nat} (hm : m ≤ n) : m / 128 ≤ n := by omega
set_option maxRecDepth 100000 in
theorem number_yes {w : World} {p : Nat} {o : Option Nat} {F : List Int} (h : WR w p o F) (n : Nat) (hn : (n : Int) ≤ 9223372036854775807) (lo hi : Int) (h1 : decide (lo ≤ (n : Int)) = true) (h2 : decide ((n : Int) ≤ hi) = true) :
    Calls Tryd.prog 62 #[.pointer (some ⟨p, 0, none⟩), .int .i64 n, .int .i64 lo, .int .i64 hi] w fun e w' => e = .returned (.tuple #[]) ∧ ∃ o', WR w' p o' (F ++ numB n) ∧ St p o w o' w' := by
  have HW := hid_mk h
  have HNB := hid_mk hn
  clear h hn
  go_enter Tryd.func62, Tryd.ntmps62
  go_wp2_with (go_at_call 80; refine calls_same (may_yes _) ?_)
  clear h1 h2
  go_loopw [1] (fun x wr => ∃ m : Nat, x = .int .i64 m ∧ m ≤ n ∧ ∃ o' F', F' ++ numB m = F ++ numB n ∧ WR wr p o' F' ∧ St p o w o' wr) (fun x _ => (intOf x).toNat)
  case atStart => exact ⟨n, rfl, Nat.le_refl _, o, F, rfl, HW.out, St.refl _ _ _⟩
  case round =>
    obtain ⟨m, rfl, hmn, o', F', hF, hW, hS⟩ := hrel
    have HM := hid_mk hmn
    clear hmn
    have HF := hid_mk hF
    have HW1 := hid_mk hW
    have HS := hid_mk hS
    clear hF hW hS
    by_cases hgo : 128 ≤ m
    · have g1 : (128 : Int) ≤ (m : Int) := by omega
      have hd : decide ((128 : Int) ≤ (m : Int)) = true := by simp; omega
      go_wp2_with (go_at_call 61; refine (put_one (b := ((128 + m % 128 : Nat) : Int)) HW1.out (by omega) (by omega) (by omega) rfl).mono ?_; rintro e w2 ⟨rfl, o2, hW2, hS2⟩; have HW2 := hid_mk hW2; have HS2 := hid_mk hS2; clear hW2 hS2)
      go_roundw
      case rel => exact ⟨m / 128, num_v HNB.out HM.out, num_le HM.out, o2, _, by rw [← HF.out, numB_ge hgo, List.append_assoc]; rfl, HW2.out, HS.out.trans HS2.out⟩
      case measure => rw [num_q HNB.out HM.out]; simp [intOf]; omega
    · have g1 : (m : Int) < 128 := by omega
      have hd : decide ((128 : Int) ≤ (m : Int)) = false := by simp; omega
      go_wp2_with (go_at_call 61; refine (put_one (b := (m : Int)) HW1.out (by omega) (by omega) (by omega) rfl).mono ?_; rintro e w2 ⟨rfl, o2, hW2, hS2⟩; have HW2 := hid_mk hW2; have HS2 := hid_mk hS2; clear hW2 hS2)
      refine bodyPost_end (results_none Tryd.results62 _ _ _) rfl ⟨rfl, o2, ?_, HS.out.trans HS2.out⟩
      rw [← HF.out, numB_lt (by omega)]
      exact HW2.out
/-- a number out of its range -/
theorem number_no {w : World} {p : Nat} (n lo hi : Int) (h1 : (decide (lo ≤ n) && decide (n ≤ hi)) = false) :
    Calls Tryd.prog 62 #[.pointer (some ⟨p, 0, none⟩), .int .i64 n, .int .i64 lo, .int .i64 hi] w fun e w' => e = .panicked [stopP 62 0] ∧ w' = w := by
  rcases ha : decide (lo ≤ n) with _ | _
  · go_enter Tryd.func62, Tryd.ntmps62
    go_wp2_with (go_at_call 80; refine calls_stop (may_no _) ?_)
    exact ⟨rfl, rfl, rfl⟩
  · have hb : decide (n ≤ hi) = false := by simpa [ha] using h1
    clear h1
    go_enter Tryd.func62, Tryd.ntmps62
    go_wp2_with (go_at_call 80; refine calls_stop (may_no _) ?_)
    exact ⟨rfl, rfl, rfl⟩
/-- a fixnum -/
theorem signed_yes {w : World} {p : Nat} {o : Option Nat} {F : List Int} (h : WR w p o F) (a : Int) (h1 : decide (-1152921504606846976 ≤ a) = true) (h2 : decide (a ≤ 1152921504606846975) = true) :
    Calls Tryd.prog 96 #[.pointer (some ⟨p, 0, none⟩), .int .i64 a] w fun e w' => e = .returned (.tuple #[]) ∧ ∃ o', WR w' p o' (F ++ numB (zig a)) ∧ St p o w o' w' := by
  have HN := hid_mk (number_yes h (zig a) (by simp only [decide_eq_true_eq] at h1 h2 ⊢; unfold zig; split <;> omega) 0 2305843009213693951 (by simp) (by simp only [decide_eq_true_eq] at h1 h2 ⊢; unfold zig; split <;> omega))
  by_cases h0 : 0 ≤ a
  · have hd : decide (0 ≤ a) = true := by simpa using h0
    have hz : ((zig a : Nat) : Int) = 2 * a := by unfold zig; rw [if_pos h0]; omega
    have hw : wrap64 (2 * a) = 2 * a := by simp only [decide_eq_true_eq] at h1 h2; unfold wrap64; omega
    rw [hz] at HN
    clear hz
    clear h
    go_enter Tryd.func96, Tryd.ntmps96
    go_wp2_with (first
      | (go_at_call 80; refine calls_same (may_yes _) ?_)
      | (go_at_call 62; refine HN.out.mono ?_; rintro e w2 ⟨rfl, o2, hW2, hS2⟩))
    exact bodyPost_end (results_none Tryd.results96 _ _ _) rfl ⟨rfl, o2, hW2, hS2⟩
  · have hd : decide (0 ≤ a) = false := by simpa using h0
    have hz : ((zig a : Nat) : Int) = -2 * a - 1 := by unfold zig; rw [if_neg h0]; omega
    have hw : wrap64 (-2 * a) = -2 * a := by simp only [decide_eq_true_eq] at h1 h2; unfold wrap64; omega
    have hw2 : wrap64 (-2 * a - 1) = -2 * a - 1 := by simp only [decide_eq_true_eq] at h1 h2; unfold wrap64; omega
    rw [hz] at HN
    clear hz
    clear h
    go_enter Tryd.func96, Tryd.ntmps96
    go_wp2_with (first
      | (go_at_call 80; refine calls_same (may_yes _) ?_)
      | (go_at_call 62; refine HN.out.mono ?_; rintro e w2 ⟨rfl, o2, hW2, hS2⟩))
    exact bodyPost_end (results_none Tryd.results96 _ _ _) rfl ⟨rfl, o2, hW2, hS2⟩
theorem signed_no {w : World} {p : Nat} (a : Int) (h1 : (decide (-1152921504606846976 ≤ a) && decide (a ≤ 1152921504606846975)) = false) :
    Calls Tryd.prog 96 #[.pointer (some ⟨p, 0, none⟩), .int .i64 a] w fun e w' => e = .panicked [stopP 62 0] ∧ w' = w := by
  rcases ha : decide (-1152921504606846976 ≤ a) with _ | _
  · go_enter Tryd.func96, Tryd.ntmps96
    go_wp2_with (go_at_call 80; refine calls_stop (may_no _) ?_)
    exact ⟨rfl, rfl, rfl⟩
  · have hb : decide (a ≤ 1152921504606846975) = false := by simpa [ha] using h1
    clear h1
    go_enter Tryd.func96, Tryd.ntmps96
    go_wp2_with (go_at_call 80; refine calls_stop (may_no _) ?_)
    exact ⟨rfl, rfl, rfl⟩
end Go.Proofs.YtkghabmgofgclaaDoor
