/- the document's own code: an instruction is written -/
import Derived.Test.YtkghabmgofgclaaDoorWrb
namespace Go.Proofs.YtkghabmgofgclaaDoor
open Go.RowKit
set_option linter.unusedVariables false
set_option linter.unusedSimpArgs false

theorem le8_at2 (bits : Int) {k : Nat} (hk : k < 8) : (le8 bits)[k]? = some (bits % 18446744073709551616 / 256 ^ k % 256) := by
  unfold le8
  match k, hk with
  | 0, _ => simp
  | 1, _ => simp; omega
  | 2, _ => simp; omega
  | 3, _ => simp; omega
  | 4, _ => simp; omega
  | 5, _ => simp; omega
  | 6, _ => simp; omega
  | 7, _ => simp; omega
theorem le8_len (bits : Int) : (le8 bits).length = 8 := by unfold le8; simp
theorem le8_up2 {bits : Int} {k : Nat} (hk : k < 8) (l : List Int) : l ++ (le8 bits).take (k + 1) = l ++ (le8 bits).take k ++ [bits % 18446744073709551616 / 256 ^ k % 256] := by
  rw [List.take_add_one, le8_at2 bits hk, List.append_assoc]; rfl
theorem ok_op {op a : Int} (h : okI (op, a)) : 1 ≤ op ∧ op ≤ 75 := by
  have h1 := h.1
  unfold opS at h1
  simp only [] at h1
  by_cases e1 : op = 1
  · omega
  by_cases e5 : op = 5
  · omega
  rw [if_neg e1, if_neg e5] at h1
  split at h1
  · omega
  · split at h1
    · omega
    · exact absurd rfl h1
theorem ro_k {op a : Int} (h : okI (op, a)) : (roV op = 1 ∧ opS op = 2 ∧ 0 ≤ a ∧ a ≤ 2097151) ∨ (roV op = 2 ∧ opS op = 3 ∧ -1152921504606846976 ≤ a ∧ a ≤ 1152921504606846975) ∨ (roV op = 3 ∧ opS op = 4 ∧ -9223372036854775808 ≤ a ∧ a ≤ 9223372036854775807) ∨ (roV op = 0 ∧ opS op = 1) := by
  obtain ⟨h0, h1, h2, h3, h4⟩ := h
  simp only [] at h0 h1 h2 h3 h4
  have hle : opS op ≤ 4 := by unfold opS; split; decide; split; decide; split; decide; split <;> decide
  unfold roV
  rcases (show opS op = 1 ∨ opS op = 2 ∨ opS op = 3 ∨ opS op = 4 by omega) with e | e | e | e
  · right; right; right; simp [e]
  · left; simp [e]; exact h2 e
  · right; left; simp [e]; exact h3 e
  · right; right; left; simp [e]; exact h4 e
theorem u_div {V : Int} {k : Nat} (h0 : 0 ≤ V) : V / 256 ^ k / 256 = V / 256 ^ (k + 1) := by rw [Int.pow_succ, Int.ediv_ediv_of_nonneg (Int.le_of_lt (Int.pow_pos (by decide)))]
theorem u_lt {V : Int} {k : Nat} (h0 : 0 ≤ V) (h1 : V < 18446744073709551616) : 0 ≤ V / 256 ^ k ∧ V / 256 ^ k < 18446744073709551616 := by
  have hp : (0 : Int) < 256 ^ k := Int.pow_pos (by decide)
  exact ⟨Int.ediv_nonneg h0 (Int.le_of_lt hp), Int.lt_of_le_of_lt (Int.ediv_le_self _ h0) h1⟩
theorem k_up {k : Nat} (h : k < 8) : wrap64 ((k : Int) + 1) = ((k + 1 : Nat) : Int) := by unfold wrap64; omega
theorem k_ms {k : Nat} (h : k < 8) : 8 - (intOf (.int .i64 (wrap64 ((k : Int) + 1)))).toNat < 8 - (intOf (.int .i64 (k : Int))).toNat := by rw [k_up h]; simp [intOf]; omega
theorem zig_neg {a : Int} (h : a < 0) (h2 : -1152921504606846976 ≤ a) : wrap64 (wrap64 (-2 * a) - 1) = ((zig a : Nat) : Int) := by unfold zig wrap64; rw [if_neg (by omega)]; omega
theorem zig_pos {a : Int} (h : ¬ a < 0) (h2 : a ≤ 1152921504606846975) : wrap64 (2 * a) = ((zig a : Nat) : Int) := by unfold zig wrap64; rw [if_pos (by omega)]; omega
theorem zig_big {a : Int} (h2 : -1152921504606846976 ≤ a ∧ a ≤ 1152921504606846975) : ((zig a : Nat) : Int) ≤ 9223372036854775807 := by unfold zig; split <;> omega
theorem u8_op2 {op : Int} (h : 1 ≤ op ∧ op ≤ 75) : IntKind.u8.wrap op = op := by simp [IntKind.wrap, IntKind.signed, IntKind.bits]; omega
theorem rnumber_at {w : World} {base K c : Nat} {a : Option Addr} {bs : List Int} (h : BO w base a K c bs) (hb : base ≤ w.heap.size) (n : Nat) (hn : (n : Int) ≤ 9223372036854775807) (hK : K ≤ 9000000) {v : Int} (hv : v = (n : Int)) :
    Calls Tryd.prog 44 #[.slice a K c, .int .i64 v] w fun e w' => ∃ a' K' c', e = .returned (.slice a' K' c') ∧ BO w' base a' K' c' (bs ++ numB n) ∧ RS w (ob a K c) w' (ob a' K' c') := by
  subst hv
  exact rnumber_any h hb n hn hK
set_option maxRecDepth 100000 in
set_option maxHeartbeats 1000000 in
theorem rwritten_any {w : World} {base K c : Nat} {ta : Option Addr} {bs : List Int} (h : BO w base ta K c bs) (hb : base ≤ w.heap.size) {op a : Int} (hx : okI (op, a)) (hK : K ≤ 8000000) :
    Calls Tryd.prog 45 #[.slice ta K c, .agg #[.int .i64 op, .int .i64 a]] w fun e w' => ∃ a' K' c', e = .returned (.slice a' K' c') ∧ BO w' base a' K' c' (bs ++ encI (op, a)) ∧ RS w (ob ta K c) w' (ob a' K' c') := by
  have HOp := hid_mk (ok_op hx)
  have hr := ro_k hx
  have HB := hid_mk h
  have HN := hid_mk (And.intro hb hK)
  have hu8 := u8_op2 (ok_op hx)
  obtain ⟨g, hg⟩ : ∃ g, w.heap.size = g := ⟨_, rfl⟩
  obtain ⟨V, hV⟩ : ∃ V, w.alloc (.cells #[.int .i64 op, .int .i64 a] 61) = V := ⟨_, rfl⟩
  have oV : Out 0 0 w V := by rw [← hV]; exact (Out.refl 0 0 w).alloc _
  have b0 : Bl V g #[.int .i64 op, .int .i64 a] 61 := by rw [← hV, ← hg]; exact Bl.new _ _ _
  have k0 := b0.cell (i := 0) rfl
  have HB0 := hid_mk b0
  have HO := hid_mk oV
  have HOP := hid_mk (roperand_any (op := op))
  have HG := hid_mk hg
  clear h hb hK hx b0 oV
  go_enter Tryd.func45, Tryd.ntmps45
  go_wp2_with (at_builtin; refine app_bs rfl _ _ rfl rfl rfl (HB.out.kept HO.out) (Nat.le_trans HN.out.1 HO.out.size) ((Out.refl 0 0 V).alloc _) (one_byte2 V (b := op) (by have := HOp.out; omega) (by have := HOp.out; omega) rfl rfl) rfl (by have := HN.out; omega) (by omega) ?_; intro a1 c1 w1 q1 q2; have H1 := hid_mk q1; have H2 := hid_mk q2; have k2 := (HB0.out.fx q2.1 (fun e => by have := (HB.out.ge _ e).2; have := HG.out; omega)); have k3 := k2.cell (i := 0) rfl; have k4 := k2.cell (i := 1) rfl; clear q1 q2 k2 k0)
  (try clear hV hg hu8)
  refine calls_same (HOP.out _) ?_
  have HR := hid_mk ((RS.of_out (ob ta K c) HO.out).trans H2.out)
  have hsz : Hid (base ≤ w1.heap.size) := hid_mk (Nat.le_trans (Nat.le_trans HN.out.1 HO.out.size) H2.out.1.size)
  rcases hr with ⟨h1, h2, h3⟩ | ⟨h1, h2, h3⟩ | ⟨h1, h2, h3⟩ | ⟨h1, h2⟩
  · rw [h1]
    have HE : Hid (encI (op, a) = op :: numB a.toNat) := hid_mk (by unfold encI opB; simp only []; rw [if_pos h2])
    have HA := hid_mk h3
    clear h1 h2 h3 k3
    go_wp2_with fail
    refine (rnumber_at H1.out hsz.out a.toNat (by have := HA.out; omega) (by have := HN.out; omega) (by have := HA.out; omega)).mono ?_
    rintro e w2 ⟨a2, K2, c2, rfl, q1, q2⟩
    have H3 := hid_mk q1
    have H4 := hid_mk (HR.out.trans q2)
    clear q1 q2
    go_wp2
    go_ret
    exact ⟨a2, K2, c2, rfl, by rw [HE.out]; simpa using H3.out, H4.out⟩
  · rw [h1]
    have HE : Hid (encI (op, a) = op :: numB (zig a)) := hid_mk (by unfold encI opB; simp only []; rw [if_neg (by rw [h2]; decide), if_pos h2])
    have HA := hid_mk h3
    clear h1 h2 k3
    by_cases hneg : a < 0
    · have q5 : decide (a < 0) = true := by simpa using hneg
      have HZ := hid_mk (zig_neg hneg h3.1)
      clear hneg h3
      go_wp2_with fail
      refine (rnumber_at H1.out hsz.out (zig a) (zig_big HA.out) (by have := HN.out; omega) HZ.out).mono ?_
      rintro e w2 ⟨a2, K2, c2, rfl, q1, q2⟩
      have H3 := hid_mk q1
      have H4 := hid_mk (HR.out.trans q2)
      clear q1 q2
      go_wp2
      go_ret
      exact ⟨a2, K2, c2, rfl, by rw [HE.out]; simpa using H3.out, H4.out⟩
    · have q5 : decide (a < 0) = false := by simpa using hneg
      have HZ := hid_mk (zig_pos hneg h3.2)
      clear hneg h3
      go_wp2_with fail
      refine (rnumber_at H1.out hsz.out (zig a) (zig_big HA.out) (by have := HN.out; omega) HZ.out).mono ?_
      rintro e w2 ⟨a2, K2, c2, rfl, q1, q2⟩
      have H3 := hid_mk q1
      have H4 := hid_mk (HR.out.trans q2)
      clear q1 q2
      go_wp2
      go_ret
      exact ⟨a2, K2, c2, rfl, by rw [HE.out]; simpa using H3.out, H4.out⟩
  · rw [h1]
    have HE : Hid (encI (op, a) = op :: le8 a) := hid_mk (by unfold encI opB; simp only []; rw [if_neg (by rw [h2]; decide), if_neg (by rw [h2]; decide), if_pos h2])
    obtain ⟨U, hU⟩ : ∃ U, a % 18446744073709551616 = U := ⟨_, rfl⟩
    have hUw : IntKind.u64.wrap a = U := by rw [← hU]; simp [IntKind.wrap, IntKind.signed, IntKind.bits]
    have HU : Hid (a % 18446744073709551616 = U ∧ 0 ≤ U ∧ U < 18446744073709551616) := hid_mk ⟨hU, by omega, by omega⟩
    clear h1 h2 h3 k3 hU
    go_wp2_with fail
    clear hUw k4
    go_loopw [0, 5, 6] (fun bv uv kv wr => ∃ (k : Nat) (a2 : Option Addr) (K2 c2 : Nat), kv = .int .i64 k ∧ k ≤ 8 ∧ K2 = K + 1 + k ∧ bv = .slice a2 K2 c2 ∧ uv = .int .u64 (U / 256 ^ k) ∧ BO wr base a2 K2 c2 (bs ++ [op] ++ (le8 a).take k) ∧ RS w (ob ta K c) wr (ob a2 K2 c2)) (fun _ _ kv _ => 8 - (intOf kv).toNat)
    case atStart => exact ⟨0, a1, K + 1, c1, rfl, by omega, rfl, rfl, by simp, by simpa using H1.out, HR.out⟩
    case round =>
      obtain ⟨k, a2, K2, c2, rfl, hk, hK2, rfl, rfl, hbo, hrs⟩ := hrel
      have HBO := hid_mk hbo
      have HRS := hid_mk hrs
      have HKK := hid_mk hK2
      clear hbo hrs hK2
      by_cases hgo : k < 8
      · have l1 : decide ((k : Int) < 8) = true := by simp; omega
        have l2 : decide (k < 8) = true := by simpa using hgo
        obtain ⟨X, hX⟩ : ∃ X, U / 256 ^ k = X := ⟨_, rfl⟩
        have hX2 := u_lt (k := k) HU.out.2.1 HU.out.2.2
        rw [hX] at hX2 ⊢
        obtain ⟨r, hr⟩ : ∃ r, X % 256 = r := ⟨_, rfl⟩
        have hr2 : 0 ≤ r ∧ r ≤ 255 := by omega
        obtain ⟨d, hd⟩ : ∃ d, X / 256 = d := ⟨_, rfl⟩
        have HX : Hid (U / 256 ^ k = X ∧ X % 256 = r ∧ X / 256 = d ∧ k < 8) := hid_mk ⟨hX, hr, hd, hgo⟩
        have HR2 := hid_mk hr2
        have f1 : X.tmod 256 = r := by rw [Int.tmod_eq_emod_of_nonneg hX2.1]; exact hr
        have f2 : X.tdiv 256 = d := by rw [Int.tdiv_eq_ediv_of_nonneg hX2.1]; exact hd
        have f3 : IntKind.u8.wrap r = r := by simp [IntKind.wrap, IntKind.signed, IntKind.bits]; omega
        have f4 : IntKind.u64.wrap r = r := by simp [IntKind.wrap, IntKind.signed, IntKind.bits]; omega
        have f5 : IntKind.u64.wrap d = d := by simp [IntKind.wrap, IntKind.signed, IntKind.bits]; omega
        clear hX hX2 hr2 hgo hk
        go_wp2_with (at_builtin; refine app_bs rfl _ _ rfl rfl rfl HBO.out (Nat.le_trans (Nat.le_trans HN.out.1 (Nat.le_refl _)) HRS.out.1.size) ((Out.refl 0 0 wr).alloc _) (one_byte2 wr (b := r) HR2.out.1 HR2.out.2 rfl rfl) rfl (by have := HKK.out; have := HN.out; have := HX.out.2.2.2; omega) (by omega) ?_; intro a3 c3 w3 q1 q2; have H5 := hid_mk q1; have H6 := hid_mk q2; clear q1 q2)
        exact ⟨⟨k + 1, a3, K2 + 1, c3, by rw [k_up HX.out.2.2.2], HX.out.2.2.2, by have := HKK.out; omega, rfl, by rw [← u_div HU.out.2.1, HX.out.1, HX.out.2.2.1], by rw [le8_up2 HX.out.2.2.2, HU.out.1, HX.out.1, HX.out.2.1]; exact H5.out, HRS.out.trans H6.out⟩, k_ms HX.out.2.2.2⟩
      · obtain rfl : k = 8 := by omega
        clear hgo hk
        go_wp2
        go_ret
        exact ⟨a2, K2, c2, rfl, by
          have h8 : (le8 a).take 8 = le8 a := List.take_of_length_le (by rw [le8_len]; exact Nat.le_refl _)
          have h9 := HBO.out
          rw [h8, List.append_assoc] at h9
          rw [HE.out]
          exact h9, HRS.out⟩
  · rw [h1]
    have HE : Hid (encI (op, a) = [op]) := hid_mk (by unfold encI opB; simp only []; rw [if_neg (by rw [h2]; decide), if_neg (by rw [h2]; decide), if_neg (by rw [h2]; decide)])
    clear h1 h2 k3 k4
    go_wp2
    go_ret
    exact ⟨a1, K + 1, c1, rfl, by rw [HE.out]; exact H1.out, HR.out⟩
end Go.Proofs.YtkghabmgofgclaaDoor
