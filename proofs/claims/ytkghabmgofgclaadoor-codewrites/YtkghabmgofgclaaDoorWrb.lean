/- the document's own code: numbers, instructions are written -/
import Derived.Test.YtkghabmgofgclaaDoorWra
namespace Go.Proofs.YtkghabmgofgclaaDoor
open Go.RowKit
set_option linter.unusedVariables false
set_option linter.unusedSimpArgs false

theorem one_byte2 (w : World) {b c : Int} {H : Nat} (h0 : 0 ≤ b) (h1 : b ≤ 255) (hc : c = b) (hH : w.heap.size = H) : BytesAt (w.alloc (.cells #[.int .u8 c] 5)) (some ⟨H, 0, none⟩) [b] := by
  subst hc hH
  exact one_byte w h0 h1
theorem num_10 {n : Nat} (h : (n : Int) ≤ 9223372036854775807) : (numB n).length ≤ 10 := numB_len (k := 9) (by omega)
set_option maxRecDepth 100000 in
theorem rnumber_any {w : World} {base K c : Nat} {a : Option Addr} {bs : List Int} (h : BO w base a K c bs) (hb : base ≤ w.heap.size) (n : Nat) (hn : (n : Int) ≤ 9223372036854775807) (hK : K ≤ 9000000) :
    Calls Tryd.prog 44 #[.slice a K c, .int .i64 n] w fun e w' => ∃ a' K' c', e = .returned (.slice a' K' c') ∧ BO w' base a' K' c' (bs ++ numB n) ∧ RS w (ob a K c) w' (ob a' K' c') := by
  have HB := hid_mk h
  have HN := hid_mk (And.intro hn (And.intro hb hK))
  clear h hn hb hK
  go_enter Tryd.func44, Tryd.ntmps44
  go_wp2_with fail
  go_loopw [0, 1] (fun bv x wr => ∃ (m : Nat) (a1 : Option Addr) (K1 c1 : Nat) (b1 : List Int), x = .int .i64 m ∧ m ≤ n ∧ bv = .slice a1 K1 c1 ∧ b1 ++ numB m = bs ++ numB n ∧ BO wr base a1 K1 c1 b1 ∧ RS w (ob a K c) wr (ob a1 K1 c1)) (fun _ x _ => (intOf x).toNat)
  case atStart => exact ⟨n, a, K, c, bs, rfl, Nat.le_refl _, rfl, rfl, HB.out, RS.of_out _ (Out.refl 0 0 w)⟩
  case round =>
    obtain ⟨m, a1, K1, c1, b1, rfl, hmn, rfl, hF, hB1, hS⟩ := hrel
    have HM := hid_mk hmn
    have HF := hid_mk hF
    have HB1 := hid_mk hB1
    have HS := hid_mk hS
    have HL : Hid (K1 ≤ 9000010) := hid_mk (by
      have h1 := congrArg List.length hF
      rw [List.length_append, List.length_append, hB1.1, HB.out.1] at h1
      have := num_10 HN.out.1
      have := HN.out.2.2
      omega)
    clear hmn hF hB1 hS
    by_cases hgo : 128 ≤ m
    · have g1 : (128 : Int) ≤ (m : Int) := by omega
      have hd : decide ((128 : Int) ≤ (m : Int)) = true := by simp; omega
      go_wp2_with (at_builtin; refine app_bs rfl _ _ rfl rfl rfl HB1.out (Nat.le_trans HN.out.2.1 HS.out.1.size) ((Out.refl 0 0 wr).alloc _) (one_byte2 wr (b := ((128 + m % 128 : Nat) : Int)) (by omega) (by omega) (by omega) rfl) rfl (by have := HL.out; omega) (by omega) ?_; intro a2 c2 w2 q1 q2; have H1 := hid_mk q1; have H2 := hid_mk q2; clear q1 q2)
      go_roundw
      case rel => exact ⟨m / 128, a2, K1 + 1, c2, _, num_v HN.out.1 HM.out, num_le HM.out, rfl, by rw [← HF.out, numB_ge hgo, List.append_assoc]; rfl, H1.out, HS.out.trans H2.out⟩
      case measure => rw [num_q HN.out.1 HM.out]; simp [intOf]; omega
    · have g1 : (m : Int) < 128 := by omega
      have hd : decide ((128 : Int) ≤ (m : Int)) = false := by simp; omega
      go_wp2_with (at_builtin; refine app_bs rfl _ _ rfl rfl rfl HB1.out (Nat.le_trans HN.out.2.1 HS.out.1.size) ((Out.refl 0 0 wr).alloc _) (one_byte2 wr (b := (m : Int)) (by omega) (by omega) (by omega) rfl) rfl (by have := HL.out; omega) (by omega) ?_; intro a2 c2 w2 q1 q2; have H1 := hid_mk q1; have H2 := hid_mk q2; clear q1 q2)
      go_ret
      refine ⟨a2, K1 + 1, c2, rfl, ?_, HS.out.trans H2.out⟩
      rw [← HF.out, numB_lt (by omega)]
      exact H1.out
end Go.Proofs.YtkghabmgofgclaaDoor
