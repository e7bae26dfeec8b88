import Derived.Test.YtapjfokkcgdhhaaDoorQau
namespace Go.Proofs.YtapjfokkcgdhhaaDoor
open Go.RowKit
set_option linter.unusedVariables false
set_option linter.unusedSimpArgs false

theorem one_byte2 (w : World) {b c : Int} {H : Nat} (h0 : 0 ≤ b) (h1 : b ≤ 255) (hc : c = b) (hH : w.heap.size = H) : BytesAt (w.alloc (.cells #[.int .u8 c] 5)) (some ⟨H, 0, none⟩) [b] := by
  subst hc hH
  exact one_byte w h0 h1
theorem num_10 {n : Nat} (h : (n : Int) ≤ 9223372036854775807) : (numB n).length ≤ 10 := numB_len (k := 9) (by omega)
set_option maxRecDepth 100000 in
theorem wnumber_any {w : World} {base K c : Nat} {a : Option Addr} {bs : List Int} (h : BO w base a K c bs) (hb : base ≤ w.heap.size) (n : Nat) (hn : (n : Int) ≤ 9223372036854775807) (hK : K ≤ 9000000) :
    Calls Tryd.prog 36 #[.slice a K c, .int .i64 n] w fun e w' => ∃ a' K' c', e = .returned (.slice a' K' c') ∧ BO w' base a' K' c' (bs ++ numB n) ∧ RS w (ob a K c) w' (ob a' K' c') := by
  have HB := hid_mk h
  have HN := hid_mk (And.intro hn (And.intro hb hK))
  clear h hn hb hK
  go_enter Tryd.func36, Tryd.ntmps36
  go_wp2_with fail
  go_loopw [0, 1] (fun bv x wr => ∃ (m : Nat) (a1 : Option Addr) (K1 c1 : Nat) (b1 : List Int), x = .int .i64 m ∧ m ≤ n ∧ bv = .slice a1 K1 c1 ∧ b1 ++ numB m = bs ++ numB n ∧ BO wr base a1 K1 c1 b1 ∧ RS w (ob a K c) wr (ob a1 K1 c1)) (fun _ x _ => (intOf x).toNat)
  case atStart => exact ⟨n, a, K, c, bs, rfl, Nat.le_refl _, rfl, rfl, HB.out, RS.of_out _ (Out.refl 0 0 w)⟩
  case round =>
    obtain ⟨m, a1, K1, c1, b1, rfl, hmn, rfl, hF, hB1, hS⟩ := hrel
    have HM := hid_mk hmn
    have HF := hid_mk hF
    have HB1 := hid_mk hB1
    have HS := hid_mk hS
    have HL : Hid (K1 ≤ 9000010) := hid_mk (by
      have h1 := congrArg List.length hF
      rw [List.length_append, List.length_append, hB1.1, HB.out.1] at h1
      have := num_10 HN.out.1
      have := HN.out.2.2
      omega)
    clear hmn hF hB1 hS
    by_cases hgo : 128 ≤ m
    · have g1 : (128 : Int) ≤ (m : Int) := by omega
      have hd : decide ((128 : Int) ≤ (m : Int)) = true := by simp; omega
      go_wp2_with (at_builtin; refine app_bs rfl _ _ rfl rfl rfl HB1.out (Nat.le_trans HN.out.2.1 HS.out.1.size) ((Out.refl 0 0 wr).alloc _) (one_byte2 wr (b := ((128 + m % 128 : Nat) : Int)) (by omega) (by omega) (by omega) rfl) rfl (by have := HL.out; omega) (by omega) ?_; intro a2 c2 w2 q1 q2; have H1 := hid_mk q1; have H2 := hid_mk q2; clear q1 q2)
      go_roundw
      case rel => exact ⟨m / 128, a2, K1 + 1, c2, _, num_v HN.out.1 HM.out, num_le HM.out, rfl, by rw [← HF.out, numB_ge hgo, List.append_assoc]; rfl, H1.out, HS.out.trans H2.out⟩
      case measure => rw [num_q HN.out.1 HM.out]; simp [intOf]; omega
    · have g1 : (m : Int) < 128 := by omega
      have hd : decide ((128 : Int) ≤ (m : Int)) = false := by simp; omega
      go_wp2_with (at_builtin; refine app_bs rfl _ _ rfl rfl rfl HB1.out (Nat.le_trans HN.out.2.1 HS.out.1.size) ((Out.refl 0 0 wr).alloc _) (one_byte2 wr (b := (m : Int)) (by omega) (by omega) (by omega) rfl) rfl (by have := HL.out; omega) (by omega) ?_; intro a2 c2 w2 q1 q2; have H1 := hid_mk q1; have H2 := hid_mk q2; clear q1 q2)
      go_ret
      refine ⟨a2, K1 + 1, c2, rfl, ?_, HS.out.trans H2.out⟩
      rw [← HF.out, numB_lt (by omega)]
      exact H1.out
end Go.Proofs.YtapjfokkcgdhhaaDoor
namespace Go.Proofs.YtapjfokkcgdhhaaDoor
open Go.RowKit
set_option linter.unusedVariables false
set_option linter.unusedSimpArgs false

theorem le8_at2 (bits : Int) {k : Nat} (hk : k < 8) : (le8 bits)[k]? = some (bits % 18446744073709551616 / 256 ^ k % 256) := by
  unfold le8
  match k, hk with
  | 0, _ => simp
  | 1, _ => simp; omega
  | 2, _ => simp; omega
  | 3, _ => simp; omega
  | 4, _ => simp; omega
  | 5, _ => simp; omega
  | 6, _ => simp; omega
  | 7, _ => simp; omega
theorem le8_len (bits : Int) : (le8 bits).length = 8 := by unfold le8; simp
theorem le8_up2 {bits : Int} {k : Nat} (hk : k < 8) (l : List Int) : l ++ (le8 bits).take (k + 1) = l ++ (le8 bits).take k ++ [bits % 18446744073709551616 / 256 ^ k % 256] := by
  rw [List.take_add_one, le8_at2 bits hk, List.append_assoc]; rfl
theorem ok_op {op a : Int} (h : okI (op, a)) : 1 ≤ op ∧ op ≤ 75 := by
  have h1 := h.1
  unfold opS at h1
  simp only [] at h1
  by_cases e1 : op = 1
  · omega
  by_cases e5 : op = 5
  · omega
  rw [if_neg e1, if_neg e5] at h1
  split at h1
  · omega
  · split at h1
    · omega
    · exact absurd rfl h1
theorem ro_k {op a : Int} (h : okI (op, a)) : (roV op = 1 ∧ opS op = 2 ∧ 0 ≤ a ∧ a ≤ 2097151) ∨ (roV op = 2 ∧ opS op = 3 ∧ -1152921504606846976 ≤ a ∧ a ≤ 1152921504606846975) ∨ (roV op = 3 ∧ opS op = 4 ∧ -9223372036854775808 ≤ a ∧ a ≤ 9223372036854775807) ∨ (roV op = 0 ∧ opS op = 1) := by
  obtain ⟨h0, h1, h2, h3, h4⟩ := h
  simp only [] at h0 h1 h2 h3 h4
  have hle : opS op ≤ 4 := by unfold opS; split; decide; split; decide; split; decide; split <;> decide
  unfold roV
  rcases (show opS op = 1 ∨ opS op = 2 ∨ opS op = 3 ∨ opS op = 4 by omega) with e | e | e | e
  · right; right; right; simp [e]
  · left; simp [e]; exact h2 e
  · right; left; simp [e]; exact h3 e
  · right; right; left; simp [e]; exact h4 e
theorem u_div {V : Int} {k : Nat} (h0 : 0 ≤ V) : V / 256 ^ k / 256 = V / 256 ^ (k + 1) := by rw [Int.pow_succ, Int.ediv_ediv_of_nonneg (Int.le_of_lt (Int.pow_pos (by decide)))]
theorem u_lt {V : Int} {k : Nat} (h0 : 0 ≤ V) (h1 : V < 18446744073709551616) : 0 ≤ V / 256 ^ k ∧ V / 256 ^ k < 18446744073709551616 := by
  have hp : (0 : Int) < 256 ^ k := Int.pow_pos (by decide)
  exact ⟨Int.ediv_nonneg h0 (Int.le_of_lt hp), Int.lt_of_le_of_lt (Int.ediv_le_self _ h0) h1⟩
theorem k_up {k : Nat} (h : k < 8) : wrap64 ((k : Int) + 1) = ((k + 1 : Nat) : Int) := by unfold wrap64; omega
theorem k_ms {k : Nat} (h : k < 8) : 8 - (intOf (.int .i64 (wrap64 ((k : Int) + 1)))).toNat < 8 - (intOf (.int .i64 (k : Int))).toNat := by rw [k_up h]; simp [intOf]; omega
theorem zig_neg {a : Int} (h : a < 0) (h2 : -1152921504606846976 ≤ a) : wrap64 (wrap64 (-2 * a) - 1) = ((zig a : Nat) : Int) := by unfold zig wrap64; rw [if_neg (by omega)]; omega
theorem zig_pos {a : Int} (h : ¬ a < 0) (h2 : a ≤ 1152921504606846975) : wrap64 (2 * a) = ((zig a : Nat) : Int) := by unfold zig wrap64; rw [if_pos (by omega)]; omega
theorem zig_big {a : Int} (h2 : -1152921504606846976 ≤ a ∧ a ≤ 1152921504606846975) : ((zig a : Nat) : Int) ≤ 9223372036854775807 := by unfold zig; split <;> omega
theorem u8_op2 {op : Int} (h : 1 ≤ op ∧ op ≤ 75) : IntKind.u8.wrap op = op := by simp [IntKind.wrap, IntKind.signed, IntKind.bits]; omega
theorem rnumber_at {w : World} {base K c : Nat} {a : Option Addr} {bs : List Int} (h : BO w base a K c bs) (hb : base ≤ w.heap.size) (n : Nat) (hn : (n : Int) ≤ 9223372036854775807) (hK : K ≤ 9000000) {v : Int} (hv : v = (n : Int)) :
    Calls Tryd.prog 36 #[.slice a K c, .int .i64 v] w fun e w' => ∃ a' K' c', e = .returned (.slice a' K' c') ∧ BO w' base a' K' c' (bs ++ numB n) ∧ RS w (ob a K c) w' (ob a' K' c') := by
  subst hv
  exact wnumber_any h hb n hn hK
set_option maxRecDepth 100000 in
set_option maxHeartbeats 1000000 in
theorem rwritten_any {w : World} {base K c : Nat} {ta : Option Addr} {bs : List Int} (h : BO w base ta K c bs) (hb : base ≤ w.heap.size) {op a : Int} (hx : okI (op, a)) (hK : K ≤ 8000000) :
    Calls Tryd.prog 37 #[.slice ta K c, .agg #[.int .i64 op, .int .i64 a]] w fun e w' => ∃ a' K' c', e = .returned (.slice a' K' c') ∧ BO w' base a' K' c' (bs ++ encI (op, a)) ∧ RS w (ob ta K c) w' (ob a' K' c') := by
  have HOp := hid_mk (ok_op hx)
  have hr := ro_k hx
  have HB := hid_mk h
  have HN := hid_mk (And.intro hb hK)
  have hu8 := u8_op2 (ok_op hx)
  obtain ⟨g, hg⟩ : ∃ g, w.heap.size = g := ⟨_, rfl⟩
  obtain ⟨V, hV⟩ : ∃ V, w.alloc (.cells #[.int .i64 op, .int .i64 a] 61) = V := ⟨_, rfl⟩
  have oV : Out 0 0 w V := by rw [← hV]; exact (Out.refl 0 0 w).alloc _
  have b0 : Bl V g #[.int .i64 op, .int .i64 a] 61 := by rw [← hV, ← hg]; exact Bl.new _ _ _
  have k0 := b0.cell (i := 0) rfl
  have HB0 := hid_mk b0
  have HO := hid_mk oV
  have HOP := hid_mk (roperand_any (op := op))
  have HG := hid_mk hg
  clear h hb hK hx b0 oV
  go_enter Tryd.func37, Tryd.ntmps37
  go_wp2_with (at_builtin; refine app_bs rfl _ _ rfl rfl rfl (HB.out.kept HO.out) (Nat.le_trans HN.out.1 HO.out.size) ((Out.refl 0 0 V).alloc _) (one_byte2 V (b := op) (by have := HOp.out; omega) (by have := HOp.out; omega) rfl rfl) rfl (by have := HN.out; omega) (by omega) ?_; intro a1 c1 w1 q1 q2; have H1 := hid_mk q1; have H2 := hid_mk q2; have k2 := (HB0.out.fx q2.1 (fun e => by have := (HB.out.ge _ e).2; have := HG.out; omega)); have k3 := k2.cell (i := 0) rfl; have k4 := k2.cell (i := 1) rfl; clear q1 q2 k2 k0)
  (try clear hV hg hu8)
  refine calls_same (HOP.out _) ?_
  have HR := hid_mk ((RS.of_out (ob ta K c) HO.out).trans H2.out)
  have hsz : Hid (base ≤ w1.heap.size) := hid_mk (Nat.le_trans (Nat.le_trans HN.out.1 HO.out.size) H2.out.1.size)
  rcases hr with ⟨h1, h2, h3⟩ | ⟨h1, h2, h3⟩ | ⟨h1, h2, h3⟩ | ⟨h1, h2⟩
  · rw [h1]
    have HE : Hid (encI (op, a) = op :: numB a.toNat) := hid_mk (by unfold encI opB; simp only []; rw [if_pos h2])
    have HA := hid_mk h3
    clear h1 h2 h3 k3
    go_wp2_with fail
    refine (rnumber_at H1.out hsz.out a.toNat (by have := HA.out; omega) (by have := HN.out; omega) (by have := HA.out; omega)).mono ?_
    rintro e w2 ⟨a2, K2, c2, rfl, q1, q2⟩
    have H3 := hid_mk q1
    have H4 := hid_mk (HR.out.trans q2)
    clear q1 q2
    go_wp2
    go_ret
    exact ⟨a2, K2, c2, rfl, by rw [HE.out]; simpa using H3.out, H4.out⟩
  · rw [h1]
    have HE : Hid (encI (op, a) = op :: numB (zig a)) := hid_mk (by unfold encI opB; simp only []; rw [if_neg (by rw [h2]; decide), if_pos h2])
    have HA := hid_mk h3
    clear h1 h2 k3
    by_cases hneg : a < 0
    · have q5 : decide (a < 0) = true := by simpa using hneg
      have HZ := hid_mk (zig_neg hneg h3.1)
      clear hneg h3
      go_wp2_with fail
      refine (rnumber_at H1.out hsz.out (zig a) (zig_big HA.out) (by have := HN.out; omega) HZ.out).mono ?_
      rintro e w2 ⟨a2, K2, c2, rfl, q1, q2⟩
      have H3 := hid_mk q1
      have H4 := hid_mk (HR.out.trans q2)
      clear q1 q2
      go_wp2
      go_ret
      exact ⟨a2, K2, c2, rfl, by rw [HE.out]; simpa using H3.out, H4.out⟩
    · have q5 : decide (a < 0) = false := by simpa using hneg
      have HZ := hid_mk (zig_pos hneg h3.2)
      clear hneg h3
      go_wp2_with fail
      refine (rnumber_at H1.out hsz.out (zig a) (zig_big HA.out) (by have := HN.out; omega) HZ.out).mono ?_
      rintro e w2 ⟨a2, K2, c2, rfl, q1, q2⟩
      have H3 := hid_mk q1
      have H4 := hid_mk (HR.out.trans q2)
      clear q1 q2
      go_wp2
      go_ret
      exact ⟨a2, K2, c2, rfl, by rw [HE.out]; simpa using H3.out, H4.out⟩
  · rw [h1]
    have HE : Hid (encI (op, a) = op :: le8 a) := hid_mk (by unfold encI opB; simp only []; rw [if_neg (by rw [h2]; decide), if_neg (by rw [h2]; decide), if_pos h2])
    obtain ⟨U, hU⟩ : ∃ U, a % 18446744073709551616 = U := ⟨_, rfl⟩
    have hUw : IntKind.u64.wrap a = U := by rw [← hU]; simp [IntKind.wrap, IntKind.signed, IntKind.bits]
    have HU : Hid (a % 18446744073709551616 = U ∧ 0 ≤ U ∧ U < 18446744073709551616) := hid_mk ⟨hU, by omega, by omega⟩
    clear h1 h2 h3 k3 hU
    go_wp2_with fail
    clear hUw k4
    go_loopw [0, 5, 6] (fun bv uv kv wr => ∃ (k : Nat) (a2 : Option Addr) (K2 c2 : Nat), kv = .int .i64 k ∧ k ≤ 8 ∧ K2 = K + 1 + k ∧ bv = .slice a2 K2 c2 ∧ uv = .int .u64 (U / 256 ^ k) ∧ BO wr base a2 K2 c2 (bs ++ [op] ++ (le8 a).take k) ∧ RS w (ob ta K c) wr (ob a2 K2 c2)) (fun _ _ kv _ => 8 - (intOf kv).toNat)
    case atStart => exact ⟨0, a1, K + 1, c1, rfl, by omega, rfl, rfl, by simp, by simpa using H1.out, HR.out⟩
    case round =>
      obtain ⟨k, a2, K2, c2, rfl, hk, hK2, rfl, rfl, hbo, hrs⟩ := hrel
      have HBO := hid_mk hbo
      have HRS := hid_mk hrs
      have HKK := hid_mk hK2
      clear hbo hrs hK2
      by_cases hgo : k < 8
      · have l1 : decide ((k : Int) < 8) = true := by simp; omega
        have l2 : decide (k < 8) = true := by simpa using hgo
        obtain ⟨X, hX⟩ : ∃ X, U / 256 ^ k = X := ⟨_, rfl⟩
        have hX2 := u_lt (k := k) HU.out.2.1 HU.out.2.2
        rw [hX] at hX2 ⊢
        obtain ⟨r, hr⟩ : ∃ r, X % 256 = r := ⟨_, rfl⟩
        have hr2 : 0 ≤ r ∧ r ≤ 255 := by omega
        obtain ⟨d, hd⟩ : ∃ d, X / 256 = d := ⟨_, rfl⟩
        have HX : Hid (U / 256 ^ k = X ∧ X % 256 = r ∧ X / 256 = d ∧ k < 8) := hid_mk ⟨hX, hr, hd, hgo⟩
        have HR2 := hid_mk hr2
        have f1 : X.tmod 256 = r := by rw [Int.tmod_eq_emod_of_nonneg hX2.1]; exact hr
        have f2 : X.tdiv 256 = d := by rw [Int.tdiv_eq_ediv_of_nonneg hX2.1]; exact hd
        have f3 : IntKind.u8.wrap r = r := by simp [IntKind.wrap, IntKind.signed, IntKind.bits]; omega
        have f4 : IntKind.u64.wrap r = r := by simp [IntKind.wrap, IntKind.signed, IntKind.bits]; omega
        have f5 : IntKind.u64.wrap d = d := by simp [IntKind.wrap, IntKind.signed, IntKind.bits]; omega
        clear hX hX2 hr2 hgo hk
        go_wp2_with (at_builtin; refine app_bs rfl _ _ rfl rfl rfl HBO.out (Nat.le_trans (Nat.le_trans HN.out.1 (Nat.le_refl _)) HRS.out.1.size) ((Out.refl 0 0 wr).alloc _) (one_byte2 wr (b := r) HR2.out.1 HR2.out.2 rfl rfl) rfl (by have := HKK.out; have := HN.out; have := HX.out.2.2.2; omega) (by omega) ?_; intro a3 c3 w3 q1 q2; have H5 := hid_mk q1; have H6 := hid_mk q2; clear q1 q2)
        exact ⟨⟨k + 1, a3, K2 + 1, c3, by rw [k_up HX.out.2.2.2], HX.out.2.2.2, by have := HKK.out; omega, rfl, by rw [← u_div HU.out.2.1, HX.out.1, HX.out.2.2.1], by rw [le8_up2 HX.out.2.2.2, HU.out.1, HX.out.1, HX.out.2.1]; exact H5.out, HRS.out.trans H6.out⟩, k_ms HX.out.2.2.2⟩
      · obtain rfl : k = 8 := by omega
        clear hgo hk
        go_wp2
        go_ret
        exact ⟨a2, K2, c2, rfl, by
          have h8 : (le8 a).take 8 = le8 a := List.take_of_length_le (by rw [le8_len]; exact Nat.le_refl _)
          have h9 := HBO.out
          rw [h8, List.append_assoc] at h9
          rw [HE.out]
          exact h9, HRS.out⟩
  · rw [h1]
    have HE : Hid (encI (op, a) = [op]) := hid_mk (by unfold encI opB; simp only []; rw [if_neg (by rw [h2]; decide), if_neg (by rw [h2]; decide), if_neg (by rw [h2]; decide)])
    clear h1 h2 k3 k4
    go_wp2
    go_ret
    exact ⟨a1, K + 1, c1, rfl, by rw [HE.out]; exact H1.out, HR.out⟩
end Go.Proofs.YtapjfokkcgdhhaaDoor
namespace Go.Proofs.YtapjfokkcgdhhaaDoor
open Go.RowKit
set_option linter.unusedVariables false
set_option linter.unusedSimpArgs false

theorem rbet_t {w : World} {n lo hi : Int} (h : lo ≤ n ∧ n ≤ hi) : Calls Tryd.prog 43 #[.int .i64 n, .int .i64 lo, .int .i64 hi] w fun e w' => e = .returned (.bool true) ∧ w' = w := by
  have := rbetween_any w n lo hi
  rwa [decide_eq_true h] at this
theorem rbet_f {w : World} {n lo hi : Int} (h : ¬ (lo ≤ n ∧ n ≤ hi)) : Calls Tryd.prog 43 #[.int .i64 n, .int .i64 lo, .int .i64 hi] w fun e w' => e = .returned (.bool false) ∧ w' = w := by
  have := rbetween_any w n lo hi
  rwa [decide_eq_false h] at this
theorem tx_cell {w : World} {B j : Nat} {ta : Option Addr} {ts : List (List Int)} {t : List Int} (h : TxIn w B ta ts) (hx : ts[j]? = some t) : ∃ q off pj cj, ta = some ⟨q, off, none⟩ ∧ w.cell? ⟨q, off + j, none⟩ = some (.slice pj t.length cj) ∧ ByIn w B pj t := by
  rcases h with h | ⟨q, off, h1, h2, h3⟩
  · rw [h] at hx; simp at hx
  · obtain ⟨pj, cj, c1, c2⟩ := h3 j _ hx
    exact ⟨q, off, pj, cj, h1, c1, c2⟩
theorem fn_cell4 {w : World} {B j : Nat} {fa : Option Addr} {fs : List (Int × Int × Int × List (Int × Int))} {f : Int × Int × Int × List (Int × Int)} (h : FnIn w B fa fs) (hx : fs[j]? = some f) : ∃ q off pj cj, fa = some ⟨q, off, none⟩ ∧ w.cell? ⟨q, off + j * 4, none⟩ = some (.int .i64 f.1) ∧ w.cell? ⟨q, off + j * 4 + 1, none⟩ = some (.int .i64 f.2.1) ∧ w.cell? ⟨q, off + j * 4 + 2, none⟩ = some (.int .i64 f.2.2.1) ∧ w.cell? ⟨q, off + j * 4 + 3, none⟩ = some (.slice pj f.2.2.2.length cj) ∧ InIn w B pj f.2.2.2 := by
  rcases h with h | ⟨q, off, h1, h2, h3⟩
  · rw [h] at hx; simp at hx
  · obtain ⟨pj, cj, c1, c2, c3, c4, c5⟩ := h3 j _ hx
    exact ⟨q, off, pj, cj, h1, c1, c2, c3, c4, c5⟩
theorem in_cell2 {w : World} {B j : Nat} {pa : Option Addr} {l : List (Int × Int)} {x : Int × Int} (h : InIn w B pa l) (hx : l[j]? = some x) : ∃ q off, pa = some ⟨q, off, none⟩ ∧ w.cell? ⟨q, off + j * 2, none⟩ = some (.int .i64 x.1) ∧ w.cell? ⟨q, off + j * 2 + 1, none⟩ = some (.int .i64 x.2) := by
  rcases h with h | ⟨q, off, h1, h2, h3⟩
  · rw [h] at hx; simp at hx
  · obtain ⟨c1, c2⟩ := h3 j _ hx
    exact ⟨q, off, h1, c1, c2⟩
/-- no list is longer than the machine's -/
def Li (n : Nat) : Prop := (n : Int) ≤ 2305843009213693952
theorem i_up {i n : Nat} (h : i < n) (hn : Li n) : wrap64 ((i : Int) + 1) = ((i + 1 : Nat) : Int) := by unfold Li at hn; unfold wrap64; omega
theorem i_ms {i n : Nat} (h : i < n) (hn : Li n) : n - (intOf (.int .i64 (wrap64 ((i : Int) + 1)))).toNat < n - (intOf (.int .i64 (i : Int))).toNat := by rw [i_up h hn]; simp [intOf]; omega
theorem i_lt {m n : Nat} (h : m < n) : decide ((m : Int) < (n : Int)) = true ∧ decide (m < n) = true ∧ (m : Int) < (n : Int) := ⟨by simp; omega, by simpa using h, by omega⟩
theorem big_t {m : Nat} {c : Nat} (h : c < m) : decide ((c : Int) < (m : Int)) = true ∧ decide (c < m) = true := ⟨by simp; omega, by simpa using h⟩
theorem take_all2 {α : Type} {l : List α} {n : Nat} {P : α → Prop} (hn : l.length = n) (h : ∀ e ∈ l.take n, P e) : ∀ e ∈ l, P e := by
  rw [← hn, List.take_length] at h
  exact h
theorem take_upW {α : Type} {l : List α} {k : Nat} {x : α} {P : α → Prop} (h : l[k]? = some x) (hk : ∀ e ∈ l.take k, P e) (hx : P x) : ∀ e ∈ l.take (k + 1), P e := by
  intro e he
  rw [List.take_add_one, h] at he
  rcases List.mem_append.1 he with q | q
  · exact hk e q
  · simp at q; subst q; exact hx
/-- what CanWrite answers -/
def CWQ (w : World) (P : Int × List (List Int) × List (Int × Int × Int × List (Int × Int))) (e : Ending) (w' : World) : Prop := ∃ b, e = .returned (.bool b) ∧ (b = true ↔ okP P) ∧ Out 0 0 w w'
theorem CWQ.no {w w' : World} {P : Int × List (List Int) × List (Int × Int × Int × List (Int × Int))} (h : ¬ okP P) (o : Out 0 0 w w') : CWQ w P (.returned (.bool false)) w' := ⟨false, rfl, ⟨fun q => (by cases q), fun q => absurd q h⟩, o⟩
theorem CWQ.yes {w w' : World} {P : Int × List (List Int) × List (Int × Int × Int × List (Int × Int))} (h : okP P) (o : Out 0 0 w w') : CWQ w P (.returned (.bool true)) w' := ⟨true, rfl, ⟨fun _ => h, fun _ => rfl⟩, o⟩
/-- an instruction that cannot be written, one that can -/
theorem ro_ok {op a : Int} (hm : -9223372036854775808 ≤ a ∧ a ≤ 9223372036854775807) : (roV op = 4 ∧ ¬ okI (op, a)) ∨ (roV op = 0 ∧ (okI (op, a) ↔ a = 0)) ∨ (roV op = 1 ∧ (okI (op, a) ↔ 0 ≤ a ∧ a ≤ 2097151)) ∨ (roV op = 2 ∧ (okI (op, a) ↔ -1152921504606846976 ≤ a ∧ a ≤ 1152921504606846975)) ∨ (roV op = 3 ∧ okI (op, a)) := by
  have hle : opS op ≤ 4 := by unfold opS; split; decide; split; decide; split; decide; split <;> decide
  unfold roV okI
  rcases (show opS op = 0 ∨ opS op = 1 ∨ opS op = 2 ∨ opS op = 3 ∨ opS op = 4 by omega) with e | e | e | e | e
  · left; simp [e]
  · right; left; simp [e]
  · right; right; left; simp [e]
  · right; right; right; left; simp [e]
  · right; right; right; right; simp [e]; exact hm
set_option maxRecDepth 100000 in
set_option maxHeartbeats 4000000 in
theorem rcan_any {w : World} (x : Int) (ts : List (List Int)) (fs : List (Int × Int × Int × List (Int × Int))) (ta fa : Option Addr) (nt tc nf fc : Nat) (hnt : ts.length = nt) (hnf : fs.length = nf) (hts : TxIn w w.heap.size ta ts) (hfs : FnIn w w.heap.size fa fs) (hM : ∀ f ∈ fs, MI f.2.2.2) (h1 : Li nt) (h2 : Li nf) (h3 : ∀ t ∈ ts, Li t.length) (h4 : ∀ f ∈ fs, Li f.2.2.2.length) :
    Calls Tryd.prog 35 #[.agg #[.int .i64 x, .slice ta nt tc, .slice fa nf fc]] w fun e w' => CWQ w (x, ts, fs) e w' := by
  obtain ⟨V, hV⟩ : ∃ V, w.alloc (.cells #[.int .i64 x, .slice ta nt tc, .slice fa nf fc] 35) = V := ⟨_, rfl⟩
  obtain ⟨b, hb⟩ : ∃ b, w.heap.size = b := ⟨_, rfl⟩
  have oV : Out 0 0 w V := by rw [← hV]; exact (Out.refl 0 0 w).alloc _
  have b0 : Bl V b #[.int .i64 x, .slice ta nt tc, .slice fa nf fc] 35 := by rw [← hV, ← hb]; exact Bl.new _ _ _
  have k0 := b0.cell (i := 0) rfl
  have k1 := b0.cell (i := 1) rfl
  have k2 := b0.cell (i := 2) rfl
  have HB0 := hid_mk b0
  have HO := hid_mk oV
  have HH := hid_mk (And.intro (hts.kept (Lo.of_out oV) (Nat.le_refl _)) (And.intro (hfs.kept (Lo.of_out oV) (Nat.le_refl _)) (And.intro hnt (And.intro hnf hM))))
  have HL := hid_mk (And.intro h1 (And.intro h2 (And.intro h3 h4)))
  clear hts hfs hM h1 h2 h3 h4 b0 oV
  go_enter Tryd.func35, Tryd.ntmps35
  go_wp2_with fail
  (try rw [hV])
  (try rw [hb])
  clear hV hb
  by_cases e0 : 0 ≤ x ∧ x ≤ 64
  · refine calls_same (rbet_t e0) ?_
    by_cases e1 : nt ≤ 64
    · have q1 : decide ((64 : Int) < (nt : Int)) = false := by simp; omega
      have q2 : decide (64 < nt) = false := by simp; omega
      go_wp2_with fail
      by_cases e2 : (1 : Int) ≤ (nf : Int) ∧ (nf : Int) ≤ 64
      · refine calls_same (rbet_t e2) ?_
        have HE := hid_mk (And.intro e0 (And.intro e1 e2))
        clear q1 q2 e0 e1 e2 k0 k2
        go_wp2_with fail
        go_loopw [3] (fun iv wr => ∃ i : Nat, iv = .int .i64 i ∧ i ≤ nt ∧ (∀ t ∈ ts.take i, okT t) ∧ wr = V) (fun iv _ => nt - (intOf iv).toNat)
        case atStart => exact ⟨0, rfl, Nat.zero_le _, (by intro t ht; simp at ht), rfl⟩
        case round =>
          obtain ⟨i, rfl, hi, hok, rfl⟩ := hrel
          have HOK := hid_mk hok
          clear hok
          by_cases hgo : i < nt
          · obtain ⟨l1, l2, l3⟩ := i_lt hgo
            obtain ⟨t, ht⟩ : ∃ t, ts[i]? = some t := ⟨_, List.getElem?_eq_getElem (by omega)⟩
            obtain ⟨q, off, pj, cj, rfl, c1, _⟩ := tx_cell HH.out.1 ht
            obtain ⟨n, hn⟩ : ∃ n, t.length = n := ⟨_, rfl⟩
            rw [hn] at c1
            have HI := hid_mk (And.intro hgo (And.intro ht hn))
            clear hgo hi ht hn
            by_cases h5 : n ≤ 4096
            · have q5 : decide ((4096 : Int) < (n : Int)) = false := by simp; omega
              have q6 : decide (4096 < n) = false := by simp; omega
              have H5 := hid_mk h5
              clear h5
              go_wp2
              go_roundw
              case rel => exact ⟨i + 1, by rw [i_up HI.out.1 HL.out.1], HI.out.1, take_upW HI.out.2.1 HOK.out (by unfold okT; rw [HI.out.2.2]; exact H5.out), trivial⟩
              case measure => exact i_ms HI.out.1 HL.out.1
            · have q5 : decide ((4096 : Int) < (n : Int)) = true := by simp; omega
              have q6 : decide (4096 < n) = true := by simp; omega
              have H5 := hid_mk h5
              clear h5
              go_wp2
              go_ret
              exact CWQ.no (fun q => H5.out (by have := q.2.2.1 t (List.mem_of_getElem? HI.out.2.1); unfold okT at this; have := HI.out.2.2; omega)) HO.out
          · obtain rfl : i = nt := by omega
            have l1 : decide ((i : Int) < (i : Int)) = false := by simp
            obtain ⟨V1, hV1⟩ : ∃ V1, V1 = wr := ⟨_, rfl⟩
            subst hV1
            clear hgo hi
            go_wp2_with fail
            clear k1 l1
            go_loopw [4] (fun iv wz => ∃ m : Nat, iv = .int .i64 m ∧ m ≤ nf ∧ (∀ f ∈ fs.take m, okF f) ∧ Out 0 0 V1 wz) (fun iv _ => nf - (intOf iv).toNat)
            case atStart => exact ⟨0, rfl, Nat.zero_le _, (by intro t ht; simp at ht), Out.refl 0 0 V1⟩
            case round =>
              obtain ⟨m, rfl, hm, hokf, ho⟩ := hrel
              have HOF := hid_mk hokf
              have HO1 := hid_mk ho
              have p2 := (HB0.out.kept ho (.inr (Nat.zero_le _))).cell (i := 2) rfl
              by_cases hgo : m < nf
              · obtain ⟨l1, l2, l3⟩ := i_lt hgo
                obtain ⟨f, hf⟩ : ∃ f, fs[m]? = some f := ⟨_, List.getElem?_eq_getElem (by omega)⟩
                obtain ⟨q, off, pj, cj, rfl, c1, c2, c3, c4, c5⟩ := fn_cell4 (HH.out.2.1.kept (C := w.heap.size) (Lo.of_out ho) (Nat.le_refl _)) hf
                obtain ⟨P, hP⟩ : ∃ P, f.1 = P := ⟨_, rfl⟩
                obtain ⟨L, hL⟩ : ∃ L, f.2.1 = L := ⟨_, rfl⟩
                obtain ⟨C, hC⟩ : ∃ C, f.2.2.1 = C := ⟨_, rfl⟩
                obtain ⟨cd, hcd⟩ : ∃ cd, f.2.2.2 = cd := ⟨_, rfl⟩
                rw [hcd] at c4 c5
                obtain ⟨n, hn⟩ : ∃ n, cd.length = n := ⟨_, rfl⟩
                rw [hP] at c1
                rw [hL] at c2
                rw [hC] at c3
                rw [hn] at c4
                obtain ⟨gf, hgf⟩ : ∃ g, wr.heap.size = g := ⟨_, rfl⟩
                obtain ⟨V2, hV2⟩ : ∃ V, wr.alloc (.cells #[.int .i64 P, .int .i64 L, .int .i64 C, .slice pj n cj] 40) = V := ⟨_, rfl⟩
                have o2 : Out 0 0 wr V2 := by rw [← hV2]; exact (Out.refl 0 0 wr).alloc _
                have b2 : Bl V2 gf #[.int .i64 P, .int .i64 L, .int .i64 C, .slice pj n cj] 40 := by rw [← hV2, ← hgf]; exact Bl.new _ _ _
                have d0 := b2.cell (i := 0) rfl
                have d1 := b2.cell (i := 1) rfl
                have d2 := b2.cell (i := 2) rfl
                have d3 := b2.cell (i := 3) rfl
                have HM := hid_mk hgo
                have HF : Hid (f = (P, L, C, cd) ∧ fs[m]? = some f ∧ cd.length = n) := hid_mk ⟨by rw [← hP, ← hL, ← hC, ← hcd], hf, hn⟩
                have HIN := hid_mk (c5.kept (C := w.heap.size) (Lo.of_out o2) (Nat.le_refl _))
                have HO2 := hid_mk (ho.trans o2)
                have HMI : Hid (MI cd) := hid_mk (by rw [← hcd]; exact HH.out.2.2.2.2 f (List.mem_of_getElem? hf))
                have HLn : Hid (Li n) := hid_mk (by rw [← hn, ← hcd]; exact HL.out.2.2.2 f (List.mem_of_getElem? hf))
                have HNO : Hid (¬ okF (P, L, C, cd) → CWQ w (x, ts, fs) (.returned (.bool false)) V2) := hid_mk fun h => CWQ.no (fun q => h (by have := q.2.2.2.2 f (List.mem_of_getElem? hf); rwa [HF.out.1] at this)) (HO.out.trans (ho.trans o2))
                clear hgo hm hokf ho hf hP hL hC hcd hn c5 o2 b2
                go_wp2_with fail
                (try rw [hV2])
                (try rw [hgf])
                clear hV2 hgf c1 c2 c3 c4 p2
                by_cases e0 : 0 ≤ P ∧ P ≤ 8
                · refine calls_same (rbet_t e0) ?_
                  go_wp2_with fail
                  by_cases e1 : 0 ≤ L ∧ L ≤ 64
                  · refine calls_same (rbet_t e1) ?_
                    go_wp2_with fail
                    by_cases e2 : 0 ≤ C ∧ C ≤ 64
                    · refine calls_same (rbet_t e2) ?_
                      by_cases e3 : n ≤ 4096
                      · have q5 : decide ((4096 : Int) < (n : Int)) = false := by simp; omega
                        have q6 : decide (4096 < n) = false := by simp; omega
                        have HE2 := hid_mk (And.intro e0 (And.intro e1 (And.intro e2 e3)))
                        clear e0 e1 e2 e3
                        go_wp2_with fail
                        clear q5 q6 d0 d1 d2
                        go_loopw [6] (fun jv wz => ∃ j : Nat, jv = .int .i64 j ∧ j ≤ n ∧ (∀ y ∈ cd.take j, okI y) ∧ wz = V2) (fun jv _ => n - (intOf jv).toNat)
                        case atStart => exact ⟨0, rfl, Nat.zero_le _, (by intro t ht; simp at ht), rfl⟩
                        case round =>
                          obtain ⟨j, rfl, hj, hoki, rfl⟩ := hrel
                          have HOI := hid_mk hoki
                          clear hoki
                          by_cases hjn : j < n
                          · obtain ⟨m1, m2, m3⟩ := i_lt hjn
                            obtain ⟨⟨op, a⟩, hy⟩ : ∃ y, cd[j]? = some y := ⟨_, List.getElem?_eq_getElem (by have := HF.out.2.2; omega)⟩
                            obtain ⟨qc, oc, rfl, x0, x1⟩ := in_cell2 HIN.out hy
                            have hro := ro_ok (op := op) (HMI.out _ (List.mem_of_getElem? hy)).2
                            have HJ := hid_mk (And.intro hjn hy)
                            have HRO := hid_mk (fun W => roperand_any W op)
                            have HNI : Hid (¬ okI (op, a) → CWQ w (x, ts, fs) (.returned (.bool false)) wr) := hid_mk fun h => HNO.out fun q => h (q.2.2.2.2 _ (List.mem_of_getElem? hy))
                            clear hjn hj hy
                            go_wp2_with fail
                            refine calls_same (HRO.out _) ?_
                            clear HRO
                            rcases hro with ⟨r1, r2⟩ | ⟨r1, r2⟩ | ⟨r1, r2⟩ | ⟨r1, r2⟩ | ⟨r1, r2⟩
                            · rw [r1]
                              have H9 := hid_mk (HNI.out r2)
                              clear r1 r2
                              go_wp2
                              go_ret
                              exact H9.out
                            · rw [r1]
                              clear r1
                              by_cases ha : a = 0
                              · have HK := hid_mk (r2.2 ha)
                                subst ha
                                clear r2
                                go_wp2
                                exact ⟨⟨j + 1, by rw [i_up HJ.out.1 HLn.out], HJ.out.1, take_upW HJ.out.2 HOI.out HK.out, trivial⟩, i_ms HJ.out.1 HLn.out⟩
                              · have H9 := hid_mk (HNI.out fun q => ha (r2.1 q))
                                have ha2 : (a != 0) = true := by simpa using ha
                                clear r2 ha
                                go_wp2
                                go_ret
                                exact H9.out
                            · rw [r1]
                              clear r1
                              go_wp2_with fail
                              by_cases ha : 0 ≤ a ∧ a ≤ 2097151
                              · refine calls_same (rbet_t ha) ?_
                                have HK := hid_mk (r2.2 ha)
                                clear r2 ha
                                go_wp2
                                exact ⟨⟨j + 1, by rw [i_up HJ.out.1 HLn.out], HJ.out.1, take_upW HJ.out.2 HOI.out HK.out, trivial⟩, i_ms HJ.out.1 HLn.out⟩
                              · refine calls_same (rbet_f ha) ?_
                                have H9 := hid_mk (HNI.out fun q => ha (r2.1 q))
                                clear r2 ha
                                go_wp2
                                go_ret
                                exact H9.out
                            · rw [r1]
                              clear r1
                              go_wp2_with fail
                              by_cases ha : -1152921504606846976 ≤ a ∧ a ≤ 1152921504606846975
                              · refine calls_same (rbet_t ha) ?_
                                have HK := hid_mk (r2.2 ha)
                                clear r2 ha
                                go_wp2
                                exact ⟨⟨j + 1, by rw [i_up HJ.out.1 HLn.out], HJ.out.1, take_upW HJ.out.2 HOI.out HK.out, trivial⟩, i_ms HJ.out.1 HLn.out⟩
                              · refine calls_same (rbet_f ha) ?_
                                have H9 := hid_mk (HNI.out fun q => ha (r2.1 q))
                                clear r2 ha
                                go_wp2
                                go_ret
                                exact H9.out
                            · rw [r1]
                              have HK := hid_mk r2
                              clear r1 r2
                              go_wp2
                              exact ⟨⟨j + 1, by rw [i_up HJ.out.1 HLn.out], HJ.out.1, take_upW HJ.out.2 HOI.out HK.out, trivial⟩, i_ms HJ.out.1 HLn.out⟩
                          · obtain rfl : j = n := by omega
                            have m1 : decide ((j : Int) < (j : Int)) = false := by simp
                            clear hjn hj
                            go_wp2
                            exact ⟨⟨m + 1, by rw [i_up HM.out HL.out.2.1], HM.out, take_upW HF.out.2.1 HOF.out (by rw [HF.out.1]; exact ⟨HE2.out.1, HE2.out.2.1, HE2.out.2.2.1, by have := HE2.out.2.2.2; have := HF.out.2.2; simp only []; omega, take_all2 HF.out.2.2 HOI.out⟩), HO2.out⟩, i_ms HM.out HL.out.2.1⟩
                      · have q5 : decide ((4096 : Int) < (n : Int)) = true := by simp; omega
                        have q6 : decide (4096 < n) = true := by simp; omega
                        have H9 := hid_mk (HNO.out fun h => e3 (by have := h.2.2.2.1; simp only [] at this; have := HF.out.2.2; omega))
                        clear e0 e1 e2 e3
                        go_wp2
                        go_ret
                        exact H9.out
                    · refine calls_same (rbet_f e2) ?_
                      have H9 := hid_mk (HNO.out fun h => e2 h.2.2.1)
                      clear e0 e1 e2
                      go_wp2
                      go_ret
                      exact H9.out
                  · refine calls_same (rbet_f e1) ?_
                    have H9 := hid_mk (HNO.out fun h => e1 h.2.1)
                    clear e0 e1
                    go_wp2
                    go_ret
                    exact H9.out
                · refine calls_same (rbet_f e0) ?_
                  have H9 := hid_mk (HNO.out fun h => e0 h.1)
                  clear e0
                  go_wp2
                  go_ret
                  exact H9.out
              · obtain rfl : m = nf := by omega
                have l1 : decide ((m : Int) < (m : Int)) = false := by simp
                clear hgo hm hokf ho
                go_wp2
                go_ret
                exact CWQ.yes ⟨HE.out.1, by have := HE.out.2.1; have := HH.out.2.2.1; simp only []; omega, take_all2 HH.out.2.2.1 HOK.out, by have := HE.out.2.2; have := HH.out.2.2.2.1; simp only []; omega, take_all2 HH.out.2.2.2.1 HOF.out⟩ (HO.out.trans HO1.out)
      · refine calls_same (rbet_f e2) ?_
        clear q1 q2 k0 k1 k2
        go_wp2
        go_ret
        exact CWQ.no (fun q => e2 (by have := q.2.2.2.1; simp only [] at this; omega)) HO.out
    · have q1 : decide ((64 : Int) < (nt : Int)) = true := by simp; omega
      have q2 : decide (64 < nt) = true := by simp; omega
      clear e0 k0 k2
      go_wp2
      go_ret
      exact CWQ.no (fun q => e1 (by have := q.2.1; simp only [] at this; omega)) HO.out
  · refine calls_same (rbet_f e0) ?_
    clear k0 k1 k2
    go_wp2
    go_ret
    exact CWQ.no (fun q => e0 q.1) HO.out
end Go.Proofs.YtapjfokkcgdhhaaDoor
