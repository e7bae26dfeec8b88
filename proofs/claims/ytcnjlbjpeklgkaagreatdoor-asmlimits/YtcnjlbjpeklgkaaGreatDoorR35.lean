import Derived.Test.YtcnjlbjpeklgkaaGreatDoorR28
namespace Go.Proofs.YtcnjlbjpeklgkaaGreatDoor
open Go.RowKit
set_option linter.unusedVariables false
set_option linter.unusedSimpArgs false

theorem tabs_out {w w' : World} (h : Lib.Utf8Tabs 5 6 w) (o : Out 0 0 w w') : Lib.Utf8Tabs 5 6 w' :=
  ⟨fun i hi => o.cell (h.1 i hi) (.inr (Nat.zero_le _)), fun i hi => ⟨o.cell (h.2 i hi).1 (.inr (Nat.zero_le _)), o.cell (h.2 i hi).2 (.inr (Nat.zero_le _))⟩⟩
/-- one step of the decoder takes all the bytes -/
def Os (n : Nat) (bs : List Int) : Prop := 0 < n ∧ (Lib.decodeN n (by_ bs 0) (by_ bs 1) (by_ bs 2) (by_ bs 3)).2 = n
def SlN (n b1 b2 b3 sz lo hi : Nat) : Prop := n < sz ∨ b1 < lo ∨ hi < b1 ∨ (2 < sz ∧ (b2 < 128 ∨ 191 < b2)) ∨ (3 < sz ∧ (b3 < 128 ∨ 191 < b3))
theorem slow_not {n b0 b1 b2 b3 sz lo hi : Nat} (h : SlN n b1 b2 b3 sz lo hi) : (Lib.slowN n b0 b1 b2 b3 sz lo hi).2 = 1 := by
  unfold SlN at h
  unfold Lib.slowN
  repeat' split
  all_goals first | rfl | (exfalso; omega)
theorem slow_yes {n b0 b1 b2 b3 sz lo hi : Nat} (h : ¬ SlN n b1 b2 b3 sz lo hi) (hs : 2 ≤ sz ∧ sz ≤ 4) : (Lib.slowN n b0 b1 b2 b3 sz lo hi).2 = sz := by
  unfold SlN at h
  unfold Lib.slowN
  repeat' split
  all_goals first | (exfalso; omega) | (show _ = _; omega) | (simp only []; omega)
theorem ge_of {b v : Nat} (h : Lib.firstT b = v) (hv : v ≠ 240) : 128 ≤ b := by
  rcases Nat.lt_or_ge b 128 with q | q
  · unfold Lib.firstT at h; rw [if_pos q] at h; omega
  · exact q
theorem lt_of {b : Nat} (h : Lib.firstT b = 240) : b < 128 := by
  rcases Nat.lt_or_ge b 128 with q | q
  · exact q
  · unfold Lib.firstT at h
    rw [if_neg (by omega)] at h
    repeat' split at h
    all_goals omega
theorem os_bad {n i m v sz lo hi : Nat} {bs : List Int} (hb : Byt bs) (him : i + m = n) (hI : Os n bs → i = 0) (hF : Lib.firstT (by_ bs i) = v) (hv : v < 240) (hs : v % 8 = sz) (hl : Lib.accLo (v / 16) = lo) (hh : Lib.accHi (v / 16) = hi) (h : SlN m (by_ bs (i + 1)) (by_ bs (i + 2)) (by_ bs (i + 3)) sz lo hi) : Os n bs → false = decide (¬ (n = 1 ∧ 128 ≤ by_ bs 0)) := by
  intro ho
  have hi0 := hI ho
  have h2 := ho.2
  have h0 := ho.1
  subst hi0
  subst hF
  have hm : m = n := by omega
  rw [← Lib.slow_eq _ _ _ _ _ h0 (by_lt hb 1) (by_lt hb 2) (by_lt hb 3) hv, hs, hl, hh, slow_not (by rw [← hm]; exact h)] at h2
  have hge := ge_of (b := by_ bs 0) rfl (by omega)
  exact (decide_eq_false (fun q => q ⟨h2.symm, hge⟩)).symm
theorem os_good {n i m v sz lo hi : Nat} {bs : List Int} (hb : Byt bs) (him : i + m = n) (hI : Os n bs → i = 0) (hF : Lib.firstT (by_ bs i) = v) (hv : v < 240) (hs : v % 8 = sz) (hl : Lib.accLo (v / 16) = lo) (hh : Lib.accHi (v / 16) = hi) (h : ¬ SlN m (by_ bs (i + 1)) (by_ bs (i + 2)) (by_ bs (i + 3)) sz lo hi) (h24 : 2 ≤ sz ∧ sz ≤ 4) : Os n bs → m = sz := by
  intro ho
  have hi0 := hI ho
  have h2 := ho.2
  have h0 := ho.1
  subst hi0
  subst hF
  have hm : m = n := by omega
  rw [← Lib.slow_eq _ _ _ _ _ h0 (by_lt hb 1) (by_lt hb 2) (by_lt hb 3) hv, hs, hl, hh, slow_yes (by rw [← hm]; exact h) h24] at h2
  omega
theorem sz_of (b : Nat) : Lib.firstT b = 240 ∨ Lib.firstT b = 241 ∨ (Lib.firstT b < 240 ∧ Lib.firstT b % 8 = 2 ∧ Lib.firstT b / 16 < 16) ∨ (Lib.firstT b < 240 ∧ Lib.firstT b % 8 = 3 ∧ Lib.firstT b / 16 < 16) ∨ (Lib.firstT b < 240 ∧ Lib.firstT b % 8 = 4 ∧ Lib.firstT b / 16 < 16) := by
  rcases Lib.firstT_cases b with h | h | h | h | h | h | h | h | h <;> rw [h] <;> decide
theorem word_at {w : World} {g off n o j k c : Nat} {bs : List Int} (hc : ∀ i, i < n → w.cell? ⟨g, off + i, none⟩ = some (.int .u8 (by_ bs i : Int))) (ho : o = off + j) (h8 : 8 ≤ k) (hj : j + 8 ≤ n) :
    Calls Tryz.prog 172 #[.slice (some ⟨g, o, none⟩) k c] w fun e w' => (∃ x, e = .returned (.int .u64 x)) ∧ Out 0 0 w w' := by
  subst ho
  have h := fun q (hq : q < 8) => hc (j + q) (by omega)
  simp only [← Nat.add_assoc] at h
  exact word_any w g (off + j) k c h8 _ _ _ _ _ _ _ _ (h 0 (by decide)) (h 1 (by decide)) (h 2 (by decide)) (h 3 (by decide)) (h 4 (by decide)) (h 5 (by decide)) (h 6 (by decide)) (h 7 (by decide))
def VI (n g off i m : Nat) (bs : List Int) (W : World) (v : Value) (wr : World) : Prop := ∃ a' : Option Addr, i + m = n ∧ (0 < m → a' = some ⟨g, off + i, none⟩) ∧ v = .slice a' m m ∧ Out 0 0 W wr ∧ (Os n bs → i = 0 ∨ (m = 0 ∧ ¬ (n = 1 ∧ 128 ≤ by_ bs 0)))
theorem VI.next {n g off i m' o : Nat} {bs : List Int} {W wr : World} {x : Option Addr} (k : Nat) (hk : i + k + m' = n) (ho : Out 0 0 W wr) (hx : 0 < m' → x = some ⟨g, o, none⟩) (hoo : o = off + (i + k)) (hs : Os n bs → m' = 0 ∧ ¬ (n = 1 ∧ 128 ≤ by_ bs 0)) : VI n g off (i + k) m' bs W (.slice x m' m') wr :=
  ⟨x, hk, fun h => by rw [hx h, hoo], rfl, ho, fun h => .inr (hs h)⟩
theorem VI.next' {n g off j m' o : Nat} {bs : List Int} {W wr : World} {x : Option Addr} (hk : j + m' = n) (ho : Out 0 0 W wr) (hx : 0 < m' → x = some ⟨g, o, none⟩) (hoo : o = off + j) (hs : Os n bs → False) : VI n g off j m' bs W (.slice x m' m') wr :=
  ⟨x, hk, fun h => by rw [hx h, hoo], rfl, ho, fun h => (hs h).elim⟩
def slL : Value → Nat
  | .slice _ m _ => m
  | _ => 0
def VQ (n : Nat) (bs : List Int) (W : World) (e : Ending) (w' : World) : Prop := Out 0 0 W w' ∧ ∃ v : Bool, e = .returned (.bool v) ∧ (0 < n → (Lib.decodeN n (by_ bs 0) (by_ bs 1) (by_ bs 2) (by_ bs 3)).2 = n → v = decide (¬ (n = 1 ∧ 128 ≤ by_ bs 0)))
set_option maxRecDepth 100000 in
set_option maxHeartbeats 8000000 in
theorem vd_any : VdOk := by
  intro bs a n c W hn hc hlim hB hT
  refine Calls.mono (R := VQ n bs W) ?_ (fun _ _ h => h)
  have hX : ∃ g off, (0 < n → a = some ⟨g, off, none⟩) ∧ ∀ (j : Nat) x, bs[j]? = some x → W.cell? ⟨g, off + j, none⟩ = some (.int .u8 x) := by
    rcases hB.2 with q | ⟨g, off, h1, h2⟩
    · exact ⟨0, 0, fun h => by rw [q] at hn; simp at hn; omega, fun j x hj => by rw [q] at hj; cases hj⟩
    · exact ⟨g, off, fun _ => h1, h2⟩
  obtain ⟨g, off, ha, hcs⟩ := hX
  have HC := hid_mk (fun (i : Nat) (hi : i < n) => by_at hB.1 hcs (i := i) (by omega))
  have hz1 : (0:Int) ≤ (n : Int) := by omega
  have hz2 : (n:Int) ≤ (c : Int) := by omega
  clear hcs
  have HB := hid_mk hB.1
  clear hB
  have HA := hid_mk ha
  have HT := hid_mk hT
  clear ha hT
  go_enter Tryz.func165, Tryz.ntmps165
  go_wp2_with fail
  go_loopw [0] (fun v wr => ∃ i m, VI n g off i m bs W v wr) (fun v _ => slL v)
  case atStart => exact ⟨0, n, a, by omega, fun h => HA.out h, rfl, Out.refl _ _ _, fun _ => .inl rfl⟩
  case round =>
    obtain ⟨i, m, a', him, hadr, rfl, hO, hOs⟩ := hrel
    have HO := hid_mk hO
    have HS := hid_mk hOs
    by_cases hm : 0 < m
    · obtain rfl := hadr hm
      have hmi : (0 : Int) < (m : Int) := by omega
      have l0 := by_lt HB.out i
      have c0 := hO.cell (HC.out i (by omega)) (.inr (Nat.zero_le _))
      have f0 := (tabs_out HT.out hO).1 (by_ bs i) l0
      have HI : Hid (Os n bs → i = 0) := hid_mk fun h => by have := hOs h; omega
      clear hO hOs hadr HA
      rcases sz_of (by_ bs i) with hF | hF | hF | hF | hF
      · have hlt : ((by_ bs i : Nat) : Int) < 128 := by have := lt_of hF; omega
        have HA1 : Hid (Os n bs → m = 1 ∧ by_ bs 0 < 128) := hid_mk fun h => by
          have h1 := HI.out h
          have h2 := h.2
          subst h1
          rw [Lib.ascii_eq _ _ _ _ _ hF] at h2
          have h3 : 1 = n := h2
          exact ⟨by omega, lt_of hF⟩
        by_cases h9 : m < 10
        · have h9i : ¬ ((8:Int) < (m:Int) - 1) := by omega
          have h9d : decide ((8:Int) < (m:Int) - 1) = false := decide_eq_false h9i
          clear h9
          go_wp2
          exact ⟨⟨i + 1, m - 1, VI.next 1 (by omega) HO.out (fun h => if_neg (by omega)) (by omega) (fun h => by have := HA1.out h; exact ⟨by omega, by omega⟩)⟩, by show m - 1 < m; omega⟩
        · obtain ⟨k, rfl⟩ : ∃ k, m = k + 10 := ⟨m - 10, by omega⟩
          have hNO : Hid (¬ Os n bs) := hid_mk fun h => by have := HA1.out h; omega
          have h8 : (8:Int) < (k:Int) + 9 := by omega
          have h8d : decide ((8:Int) < (k:Int) + 9) = true := decide_eq_true h8
          clear h9
          go_wp2_with (go_at_call 172; refine (word_at (n := n) (j := i + 1) (fun q hq => HO.out.cell (HC.out q hq) (.inr (Nat.zero_le _))) (by omega) (by omega) (by omega)).mono ?_; rintro e w2 ⟨⟨x, rfl⟩, o2⟩)
          · have O2 := hid_mk (HO.out.trans o2)
            clear o2
            by_cases h16 : k < 16
            · have h16i : ¬ ((16:Int) < (k:Int) + 1) := by omega
              have h16d : decide ((16:Int) < (k:Int) + 1) = false := decide_eq_false h16i
              refine wp_region_held_drew (S := fun w' => Out 0 0 W w') (by kernel_rfl) ?hS1 (fun hHeld => ?rest1)
              case hS1 => exact O2.out.drew
              refine tk 0 ?_
              refine tk 1 ?_
              refine tk 2 ?_
              refine tk 3 ?_
              refine sk 4 ?_
              refine sk 5 ?_
              refine sk 6 ?_
              refine sk 7 ?_
              refine sk 8 ?_
              refine sk 9 ?_
              refine sk 10 ?_
              refine sk 11 ?_
              refine tk 12 ?_
              refine wpAnyH_done (by kernel_rfl) ?_ _
              go_wp2
              exact ⟨⟨i + 9, k + 1, VI.next 9 (by omega) O2.out.drew (fun h => rfl) (by omega) (fun h => absurd h hNO.out)⟩, by show k + 1 < k + 10; omega⟩
            · obtain ⟨q, rfl⟩ : ∃ q, k = q + 16 := ⟨k - 16, by omega⟩
              have h16i : (16:Int) < (q:Int) + 16 + 1 := by omega
              have h16e : (8:Int) ≤ (q:Int) + 16 + 1 := by omega
              have h16d : decide ((16:Int) < (q:Int) + 16 + 1) = true := decide_eq_true h16i
              clear h8 h8d
              go_wp2_with fail
              refine wp_region_held_drew (S := fun w' => Out 0 0 W w') (by kernel_rfl) ?hS15 (fun hHeld => ?rest15)
              case hS15 => exact O2.out.drew
              refine tk 0 ?_
              refine tk 1 ?_
              refine tk 2 ?_
              refine tk 3 ?_
              refine tk 4 ?_
              refine tk 6 ?_
              refine tk 7 ?_
              refine wpAnyH_ready (rs := [5]) (by kernel_rfl) (by simp) ?_
              refine AllReadyH.cons rfl (fun KK hK => ?_) AllReadyH.nil
              simp only [xa, xb, xc]
              go_simp
              go_at_call 172
              refine (word_at (n := n) (j := i + 9) (fun q hq => hHeld.cell (HC.out q hq) (.inr (Nat.zero_le _))) (by omega) (by omega) (by omega)).mono ?_
              rintro e w4 ⟨⟨x2, rfl⟩, o4⟩
              refine hK.out _ _ ?hS23 (fun hHeld2 => ?rest23)
              case hS23 => exact hHeld.trans o4
              clear hK KK
              (try clear hHeld)
              have hHeld := hHeld2
              clear hHeld2
              (try simp only [Act.put, xa, xb, xc, xd, xe, xf])
              refine wpAnyH_ready (rs := [8]) (by kernel_rfl) (by simp) ?_
              refine AllReadyH.cons rfl (fun KK hK => ?_) AllReadyH.nil
              simp only [xa, xb, xc]
              go_simp
              go_at_call 172
              refine (word_at (n := n) (j := i + 17) (fun q hq => hHeld.cell (HC.out q hq) (.inr (Nat.zero_le _))) (by omega) (by omega) (by omega)).mono ?_
              rintro e w5 ⟨⟨x3, rfl⟩, o5⟩
              refine hK.out _ _ ?hS24 (fun hHeld2 => ?rest24)
              case hS24 => exact hHeld.trans o5
              clear hK KK
              (try clear hHeld)
              have hHeld := hHeld2
              clear hHeld2
              (try simp only [Act.put, xa, xb, xc, xd, xe, xf])
              refine tk 9 ?_
              refine tk 10 ?_
              refine tk 11 ?_
              refine tk 12 ?_
              refine wpAnyH_done (by kernel_rfl) ?_ _
              have O3 := hid_mk hHeld
              clear hHeld
              go_wp2_with fail
              · have hbits := ‹(Go.bits BinOp.and IntKind.u64 (Go.bits BinOp.or IntKind.u64 _ _) 9259542123273814144 == 0) = true›
                simp only [hbits]
                clear hbits
                go_loopw [0] (fun v wr => ∃ j r o, j + r + 1 = n ∧ r < q + 1 ∧ o = off + j ∧ v = .slice (some ⟨g, o, none⟩) (r + 1) (r + 1) ∧ Out 0 0 W wr) (fun v _ => slL v)
                case atStart => exact ⟨i + 25, q, _, by omega, by omega, by omega, rfl, O3.out⟩
                case round =>
                  obtain ⟨j, r, o, hjr, hrq, ho, rfl, hO4⟩ := hrel
                  have O4 := hid_mk hO4
                  have HQ2 := hid_mk (And.intro hrq ho)
                  clear hO4 hrq ho
                  by_cases h32 : r < 32
                  · have h32i : ¬ ((32:Int) < (r:Int) + 1) := by omega
                    have h32d : decide ((32:Int) < (r:Int) + 1) = false := decide_eq_false h32i
                    go_wp2_with fail
                    refine wp_region_held_drew (S := fun w' => Out 0 0 W w') (by kernel_rfl) ?hS29 (fun hHeld => ?rest29)
                    case hS29 => exact O4.out.drew
                    refine tk 0 ?_
                    refine tk 1 ?_
                    refine tk 2 ?_
                    refine tk 3 ?_
                    refine sk 4 ?_
                    refine sk 5 ?_
                    refine sk 6 ?_
                    refine sk 7 ?_
                    refine sk 8 ?_
                    refine sk 9 ?_
                    refine sk 10 ?_
                    refine sk 11 ?_
                    refine sk 12 ?_
                    refine sk 13 ?_
                    refine sk 14 ?_
                    refine sk 15 ?_
                    refine sk 16 ?_
                    refine sk 17 ?_
                    refine sk 18 ?_
                    refine sk 19 ?_
                    refine tk 20 ?_
                    refine wpAnyH_done (by kernel_rfl) ?_ _
                    go_wp2
                    exact ⟨⟨j, r + 1, VI.next' (by omega) O4.out.drew (fun h => rfl) HQ2.out.2 (fun h => absurd h hNO.out)⟩, by have := HQ2.out.1; show r + 1 < q + 16 + 10; omega⟩
                  · obtain ⟨s, rfl⟩ : ∃ s, r = s + 32 := ⟨r - 32, by omega⟩
                    have h32i : (32:Int) < (s:Int) + 32 + 1 := by omega
                    have h32e : (8:Int) ≤ (s:Int) + 32 + 1 := by omega
                    have h32f : (16:Int) ≤ (s:Int) + 32 + 1 := by omega
                    have h32g : (24:Int) ≤ (s:Int) + 32 + 1 := by omega
                    have h32h : (32:Int) ≤ (s:Int) + 32 + 1 := by omega
                    have h32d : decide ((32:Int) < (s:Int) + 32 + 1) = true := decide_eq_true h32i
                    go_wp2_with fail
                    refine wp_region_held_drew (S := fun w' => Out 0 0 W w') (by kernel_rfl) ?hS51 (fun hHeld => ?rest51)
                    case hS51 => exact O4.out.drew
                    refine tk 0 ?_
                    refine tk 1 ?_
                    refine tk 2 ?_
                    refine tk 3 ?_
                    refine tk 4 ?_
                    refine tk 6 ?_
                    refine tk 7 ?_
                    refine tk 10 ?_
                    refine tk 11 ?_
                    refine tk 13 ?_
                    refine tk 14 ?_
                    refine wpAnyH_ready (rs := [5]) (by kernel_rfl) (by simp) ?_
                    refine AllReadyH.cons rfl (fun KK hK => ?_) AllReadyH.nil
                    simp only [xa, xb, xc]
                    go_simp
                    go_at_call 172
                    refine (word_at (n := n) (j := j) (fun q hq => hHeld.cell (HC.out q hq) (.inr (Nat.zero_le _))) (by have := HQ2.out.2; omega) (by omega) (by omega)).mono ?_
                    rintro e w4 ⟨⟨x2, rfl⟩, o4⟩
                    refine hK.out _ _ ?hS63 (fun hHeld2 => ?rest63)
                    case hS63 => exact hHeld.trans o4
                    clear hK KK
                    (try clear hHeld)
                    have hHeld := hHeld2
                    clear hHeld2
                    (try simp only [Act.put, xa, xb, xc, xd, xe, xf])
                    refine wpAnyH_ready (rs := [8]) (by kernel_rfl) (by simp) ?_
                    refine AllReadyH.cons rfl (fun KK hK => ?_) AllReadyH.nil
                    simp only [xa, xb, xc]
                    go_simp
                    go_at_call 172
                    refine (word_at (n := n) (j := j + 8) (fun q hq => hHeld.cell (HC.out q hq) (.inr (Nat.zero_le _))) (by have := HQ2.out.2; omega) (by omega) (by omega)).mono ?_
                    rintro e w5 ⟨⟨x3, rfl⟩, o5⟩
                    refine hK.out _ _ ?hS64 (fun hHeld2 => ?rest64)
                    case hS64 => exact hHeld.trans o5
                    clear hK KK
                    (try clear hHeld)
                    have hHeld := hHeld2
                    clear hHeld2
                    (try simp only [Act.put, xa, xb, xc, xd, xe, xf])
                    refine tk 9 ?_
                    refine wpAnyH_ready (rs := [12]) (by kernel_rfl) (by simp) ?_
                    refine AllReadyH.cons rfl (fun KK hK => ?_) AllReadyH.nil
                    simp only [xa, xb, xc]
                    go_simp
                    go_at_call 172
                    refine (word_at (n := n) (j := j + 16) (fun q hq => hHeld.cell (HC.out q hq) (.inr (Nat.zero_le _))) (by have := HQ2.out.2; omega) (by omega) (by omega)).mono ?_
                    rintro e w6 ⟨⟨x4, rfl⟩, o6⟩
                    refine hK.out _ _ ?hS66 (fun hHeld2 => ?rest66)
                    case hS66 => exact hHeld.trans o6
                    clear hK KK
                    (try clear hHeld)
                    have hHeld := hHeld2
                    clear hHeld2
                    (try simp only [Act.put, xa, xb, xc, xd, xe, xf])
                    refine wpAnyH_ready (rs := [15]) (by kernel_rfl) (by simp) ?_
                    refine AllReadyH.cons rfl (fun KK hK => ?_) AllReadyH.nil
                    simp only [xa, xb, xc]
                    go_simp
                    go_at_call 172
                    refine (word_at (n := n) (j := j + 24) (fun q hq => hHeld.cell (HC.out q hq) (.inr (Nat.zero_le _))) (by have := HQ2.out.2; omega) (by omega) (by omega)).mono ?_
                    rintro e w7 ⟨⟨x5, rfl⟩, o7⟩
                    refine hK.out _ _ ?hS67 (fun hHeld2 => ?rest67)
                    case hS67 => exact hHeld.trans o7
                    clear hK KK
                    (try clear hHeld)
                    have hHeld := hHeld2
                    clear hHeld2
                    (try simp only [Act.put, xa, xb, xc, xd, xe, xf])
                    refine tk 16 ?_
                    refine tk 17 ?_
                    refine tk 18 ?_
                    refine tk 19 ?_
                    refine tk 20 ?_
                    refine wpAnyH_done (by kernel_rfl) ?_ _
                    have O5 := hid_mk hHeld
                    clear hHeld
                    go_wp2
                    · exact ⟨⟨j + 32, s, _, by omega, by have := HQ2.out.1; omega, by have := HQ2.out.2; omega, rfl, O5.out⟩, by show s + 1 < s + 32 + 1; omega⟩
                    · exact ⟨⟨j, s + 32 + 1, VI.next' (by omega) O5.out (fun h => rfl) HQ2.out.2 (fun h => absurd h hNO.out)⟩, by have := HQ2.out.1; show s + 32 + 1 < q + 16 + 10; omega⟩
              · exact ⟨⟨i + 9, q + 16 + 1, VI.next 9 (by omega) O3.out (fun h => rfl) (by omega) (fun h => absurd h hNO.out)⟩, by show q + 16 + 1 < q + 16 + 10; omega⟩
          · exact ⟨⟨i + 1, k + 9, VI.next 1 (by omega) (HO.out.trans o2) (fun h => rfl) (by omega) (fun h => absurd h hNO.out)⟩, by show k + 9 < k + 10; omega⟩
      · have hge : ¬ (((by_ bs i : Nat) : Int) < 128) := by have := ge_of hF (by decide); omega
        have hgd : decide (((by_ bs i : Nat) : Int) < 128) = false := decide_eq_false hge
        have hbad : Os n bs → false = decide (¬ (n = 1 ∧ 128 ≤ by_ bs 0)) := fun h => by
          have h1 := HI.out h
          have h2 := h.2
          subst h1
          rw [Lib.bad_eq _ _ _ _ _ l0 hF] at h2
          have h3 : 1 = n := h2
          exact (decide_eq_false (fun q => q ⟨h3.symm, ge_of hF (by decide)⟩)).symm
        have HBD := hid_mk hbad
        clear hbad
        rw [hF] at f0
        have ha0 := ((tabs_out HT.out HO.out).2 15 (by omega)).1
        have ha1 := ((tabs_out HT.out HO.out).2 15 (by omega)).2
        simp only [Lib.accLo, Lib.accHi, Nat.reduceMul, Nat.reduceAdd, Nat.reduceEqDiff, if_true, if_false] at ha0 ha1
        clear hF
        go_wp2
        go_ret
        exact ⟨HO.out.alloc _, _, rfl, fun h1 h2 => HBD.out ⟨h1, h2⟩⟩
      · obtain ⟨v, hv⟩ : ∃ v, Lib.firstT (by_ bs i) = v := ⟨_, rfl⟩
        rw [hv] at f0 hF
        obtain ⟨hv240, hvs, hvr⟩ := hF
        obtain ⟨row, hrow⟩ : ∃ row, v / 16 = row := ⟨_, rfl⟩
        have hge : ¬ (((by_ bs i : Nat) : Int) < 128) := by have := ge_of hv (by omega); omega
        have hgd : decide (((by_ bs i : Nat) : Int) < 128) = false := decide_eq_false hge
        obtain ⟨ha0, ha1⟩ := (tabs_out HT.out HO.out).2 row (by omega)
        have HBD := hid_mk (os_bad HB.out him HI.out hv hv240 (sz := 2) (lo := Lib.accLo row) (hi := Lib.accHi row) hvs (by rw [hrow]) (by rw [hrow]))
        have HGD := hid_mk (os_good HB.out him HI.out hv hv240 (sz := 2) (lo := Lib.accLo row) (hi := Lib.accHi row) hvs (by rw [hrow]) (by rw [hrow]))
        have hv8 : (v : Int) % 8 = 2 := by omega
        have hv16 : (v : Int) / 16 = (row : Int) := by omega
        have hr16 : (row : Int) < 16 := by omega
        have hr0 : (0 : Int) ≤ (row : Int) := by omega
        rw [Nat.mul_comm] at ha0 ha1
        generalize Lib.accLo row = lo at *
        generalize Lib.accHi row = hi at *
        clear hv hvs hrow hvr hv240
        have z0 := (Bl.new wr #[.int .u8 (lo : Int), .int .u8 (hi : Int)] 229).cell (i := 0) rfl
        have z1 := (Bl.new wr #[.int .u8 (lo : Int), .int .u8 (hi : Int)] 229).cell (i := 1) rfl
        by_cases hs : m < 2
        · have hsi : (m : Int) < 2 := by omega
          have hsd : decide ((m : Int) < 2) = true := decide_eq_true hsi
          as_aux_lemma =>
            go_wp2_with fail
            refine wp_region_held_drew (S := fun w' => Out 0 0 W w') (by kernel_rfl) ?hS73 (fun hHeld => ?rest73)
            case hS73 => exact (HO.out.alloc _).drew
            refine tk 0 ?_
            refine tk 1 ?_
            refine tk 2 ?_
            refine tk 3 ?_
            refine sk 4 ?_
            refine sk 5 ?_
            refine sk 6 ?_
            refine sk 7 ?_
            refine sk 8 ?_
            refine sk 9 ?_
            refine tk 10 ?_
            refine tk 11 ?_
            refine sk 12 ?_
            refine sk 13 ?_
            refine sk 14 ?_
            refine sk 15 ?_
            refine sk 16 ?_
            refine sk 17 ?_
            refine tk 18 ?_
            refine wpAnyH_done (by kernel_rfl) ?_ _
            go_wp2
            go_ret
            exact ⟨(HO.out.alloc _).drew, _, rfl, fun h1 h2 => HBD.out (.inl hs) ⟨h1, h2⟩⟩
        · have hsi : ¬ ((m : Int) < 2) := by omega
          have hsd : decide ((m : Int) < 2) = false := decide_eq_false hsi
          have hy1 : (1 : Int) < (m : Int) := by omega
          have c1 := (HO.out.alloc (.cells #[.int .u8 (lo : Int), .int .u8 (hi : Int)] 229)).cell (HC.out (i + 1) (by omega)) (.inr (Nat.zero_le _))
          rw [← Nat.add_assoc] at c1
          by_cases hx0 : by_ bs (i + 1) < lo
          · have hi0 : ((by_ bs (i + 1) : Nat) : Int) < (lo : Int) := by omega
            have hd0 : decide (((by_ bs (i + 1) : Nat) : Int) < (lo : Int)) = true := decide_eq_true hi0
            as_aux_lemma =>
              go_wp2_with fail
              refine wp_region_held_drew (S := fun w' => w'.cell? ⟨wr.heap.size, 0, none⟩ = some (.int .u8 (lo : Int)) ∧ w'.cell? ⟨wr.heap.size, 1, none⟩ = some (.int .u8 (hi : Int)) ∧ w'.cell? ⟨g, off + i + 1, none⟩ = some (.int .u8 ((by_ bs (i + 1) : Nat) : Int))) (by kernel_rfl) ?hS93 (fun hHeld => ?rest93)
              case hS93 => exact ⟨z0, z1, c1⟩
              refine tk 0 ?_
              refine tk 1 ?_
              refine tk 2 ?_
              refine tk 3 ?_
              refine tk 4 ?_
              refine tk 5 ?_
              refine tk 6 ?_
              refine tk 7 ?_
              refine tk 8 ?_
              refine tk 9 ?_
              refine tk 10 ?_
              refine tk 11 ?_
              refine sk 12 ?_
              refine sk 13 ?_
              refine sk 14 ?_
              refine sk 15 ?_
              refine sk 16 ?_
              refine sk 17 ?_
              refine tk 18 ?_
              refine wpAnyH_done (by kernel_rfl) ?_ _
              go_wp2
              go_ret
              exact ⟨(HO.out.alloc _).drew, _, rfl, fun h1 h2 => HBD.out (by unfold SlN; omega) ⟨h1, h2⟩⟩
          · have hi0 : ¬ (((by_ bs (i + 1) : Nat) : Int) < (lo : Int)) := by omega
            have hd0 : decide (((by_ bs (i + 1) : Nat) : Int) < (lo : Int)) = false := decide_eq_false hi0
            by_cases hx1 : hi < by_ bs (i + 1)
            · have hi1 : (hi : Int) < ((by_ bs (i + 1) : Nat) : Int) := by omega
              have hd1 : decide ((hi : Int) < ((by_ bs (i + 1) : Nat) : Int)) = true := decide_eq_true hi1
              as_aux_lemma =>
                go_wp2_with fail
                refine wp_region_held_drew (S := fun w' => w'.cell? ⟨wr.heap.size, 0, none⟩ = some (.int .u8 (lo : Int)) ∧ w'.cell? ⟨wr.heap.size, 1, none⟩ = some (.int .u8 (hi : Int)) ∧ w'.cell? ⟨g, off + i + 1, none⟩ = some (.int .u8 ((by_ bs (i + 1) : Nat) : Int))) (by kernel_rfl) ?hS113 (fun hHeld => ?rest113)
                case hS113 => exact ⟨z0, z1, c1⟩
                refine tk 0 ?_
                refine tk 1 ?_
                refine tk 2 ?_
                refine tk 3 ?_
                refine tk 4 ?_
                refine tk 5 ?_
                refine tk 6 ?_
                refine tk 7 ?_
                refine tk 8 ?_
                refine tk 9 ?_
                refine tk 10 ?_
                refine tk 11 ?_
                refine tk 12 ?_
                refine tk 13 ?_
                refine tk 14 ?_
                refine tk 15 ?_
                refine tk 16 ?_
                refine tk 17 ?_
                refine tk 18 ?_
                refine wpAnyH_done (by kernel_rfl) ?_ _
                go_wp2
                go_ret
                exact ⟨(HO.out.alloc _).drew, _, rfl, fun h1 h2 => HBD.out (by unfold SlN; omega) ⟨h1, h2⟩⟩
            · have hi1 : ¬ ((hi : Int) < ((by_ bs (i + 1) : Nat) : Int)) := by omega
              have hd1 : decide ((hi : Int) < ((by_ bs (i + 1) : Nat) : Int)) = false := decide_eq_false hi1
              as_aux_lemma =>
                go_wp2_with fail
                refine wp_region_held_drew (S := fun w' => w'.cell? ⟨wr.heap.size, 0, none⟩ = some (.int .u8 (lo : Int)) ∧ w'.cell? ⟨wr.heap.size, 1, none⟩ = some (.int .u8 (hi : Int)) ∧ w'.cell? ⟨g, off + i + 1, none⟩ = some (.int .u8 ((by_ bs (i + 1) : Nat) : Int))) (by kernel_rfl) ?hS133 (fun hHeld => ?rest133)
                case hS133 => exact ⟨z0, z1, c1⟩
                refine tk 0 ?_
                refine tk 1 ?_
                refine tk 2 ?_
                refine tk 3 ?_
                refine tk 4 ?_
                refine tk 5 ?_
                refine tk 6 ?_
                refine tk 7 ?_
                refine tk 8 ?_
                refine tk 9 ?_
                refine tk 10 ?_
                refine tk 11 ?_
                refine tk 12 ?_
                refine tk 13 ?_
                refine tk 14 ?_
                refine tk 15 ?_
                refine tk 16 ?_
                refine tk 17 ?_
                refine tk 18 ?_
                refine wpAnyH_done (by kernel_rfl) ?_ _
                go_wp2
                exact ⟨⟨i + 2, m - 2, VI.next 2 (by omega) ((HO.out.alloc _).drew) (fun h => if_neg (by omega)) (by omega) (fun h => by have := HGD.out (by unfold SlN; omega) (by decide) h; exact ⟨by omega, by omega⟩)⟩, by show m - 2 < m; omega⟩
      · obtain ⟨v, hv⟩ : ∃ v, Lib.firstT (by_ bs i) = v := ⟨_, rfl⟩
        rw [hv] at f0 hF
        obtain ⟨hv240, hvs, hvr⟩ := hF
        obtain ⟨row, hrow⟩ : ∃ row, v / 16 = row := ⟨_, rfl⟩
        have hge : ¬ (((by_ bs i : Nat) : Int) < 128) := by have := ge_of hv (by omega); omega
        have hgd : decide (((by_ bs i : Nat) : Int) < 128) = false := decide_eq_false hge
        obtain ⟨ha0, ha1⟩ := (tabs_out HT.out HO.out).2 row (by omega)
        have HBD := hid_mk (os_bad HB.out him HI.out hv hv240 (sz := 3) (lo := Lib.accLo row) (hi := Lib.accHi row) hvs (by rw [hrow]) (by rw [hrow]))
        have HGD := hid_mk (os_good HB.out him HI.out hv hv240 (sz := 3) (lo := Lib.accLo row) (hi := Lib.accHi row) hvs (by rw [hrow]) (by rw [hrow]))
        have hv8 : (v : Int) % 8 = 3 := by omega
        have hv16 : (v : Int) / 16 = (row : Int) := by omega
        have hr16 : (row : Int) < 16 := by omega
        have hr0 : (0 : Int) ≤ (row : Int) := by omega
        rw [Nat.mul_comm] at ha0 ha1
        generalize Lib.accLo row = lo at *
        generalize Lib.accHi row = hi at *
        clear hv hvs hrow hvr hv240
        have z0 := (Bl.new wr #[.int .u8 (lo : Int), .int .u8 (hi : Int)] 229).cell (i := 0) rfl
        have z1 := (Bl.new wr #[.int .u8 (lo : Int), .int .u8 (hi : Int)] 229).cell (i := 1) rfl
        by_cases hs : m < 3
        · have hsi : (m : Int) < 3 := by omega
          have hsd : decide ((m : Int) < 3) = true := decide_eq_true hsi
          as_aux_lemma =>
            go_wp2_with fail
            refine wp_region_held_drew (S := fun w' => Out 0 0 W w') (by kernel_rfl) ?hS153 (fun hHeld => ?rest153)
            case hS153 => exact (HO.out.alloc _).drew
            refine tk 0 ?_
            refine tk 1 ?_
            refine tk 2 ?_
            refine tk 3 ?_
            refine sk 4 ?_
            refine sk 5 ?_
            refine sk 6 ?_
            refine sk 7 ?_
            refine sk 8 ?_
            refine sk 9 ?_
            refine tk 10 ?_
            refine tk 11 ?_
            refine sk 12 ?_
            refine sk 13 ?_
            refine sk 14 ?_
            refine sk 15 ?_
            refine sk 16 ?_
            refine sk 17 ?_
            refine tk 18 ?_
            refine tk 19 ?_
            refine sk 20 ?_
            refine sk 21 ?_
            refine sk 22 ?_
            refine sk 23 ?_
            refine tk 24 ?_
            refine tk 25 ?_
            refine sk 26 ?_
            refine sk 27 ?_
            refine sk 28 ?_
            refine sk 29 ?_
            refine tk 30 ?_
            refine wpAnyH_done (by kernel_rfl) ?_ _
            go_wp2
            go_ret
            exact ⟨(HO.out.alloc _).drew, _, rfl, fun h1 h2 => HBD.out (.inl hs) ⟨h1, h2⟩⟩
        · have hsi : ¬ ((m : Int) < 3) := by omega
          have hsd : decide ((m : Int) < 3) = false := decide_eq_false hsi
          have hy1 : (1 : Int) < (m : Int) := by omega
          have c1 := (HO.out.alloc (.cells #[.int .u8 (lo : Int), .int .u8 (hi : Int)] 229)).cell (HC.out (i + 1) (by omega)) (.inr (Nat.zero_le _))
          rw [← Nat.add_assoc] at c1
          have hy2 : (2 : Int) < (m : Int) := by omega
          have c2 := (HO.out.alloc (.cells #[.int .u8 (lo : Int), .int .u8 (hi : Int)] 229)).cell (HC.out (i + 2) (by omega)) (.inr (Nat.zero_le _))
          rw [← Nat.add_assoc] at c2
          by_cases hx0 : by_ bs (i + 1) < lo
          · have hi0 : ((by_ bs (i + 1) : Nat) : Int) < (lo : Int) := by omega
            have hd0 : decide (((by_ bs (i + 1) : Nat) : Int) < (lo : Int)) = true := decide_eq_true hi0
            as_aux_lemma =>
              go_wp2_with fail
              refine wp_region_held_drew (S := fun w' => w'.cell? ⟨wr.heap.size, 0, none⟩ = some (.int .u8 (lo : Int)) ∧ w'.cell? ⟨wr.heap.size, 1, none⟩ = some (.int .u8 (hi : Int)) ∧ w'.cell? ⟨g, off + i + 1, none⟩ = some (.int .u8 ((by_ bs (i + 1) : Nat) : Int)) ∧ w'.cell? ⟨g, off + i + 2, none⟩ = some (.int .u8 ((by_ bs (i + 2) : Nat) : Int))) (by kernel_rfl) ?hS185 (fun hHeld => ?rest185)
              case hS185 => exact ⟨z0, z1, c1, c2⟩
              refine tk 0 ?_
              refine tk 1 ?_
              refine tk 2 ?_
              refine tk 3 ?_
              refine tk 4 ?_
              refine tk 5 ?_
              refine tk 6 ?_
              refine tk 7 ?_
              refine tk 8 ?_
              refine tk 9 ?_
              refine tk 10 ?_
              refine tk 11 ?_
              refine sk 12 ?_
              refine sk 13 ?_
              refine sk 14 ?_
              refine sk 15 ?_
              refine sk 16 ?_
              refine sk 17 ?_
              refine tk 18 ?_
              refine tk 19 ?_
              refine sk 20 ?_
              refine sk 21 ?_
              refine sk 22 ?_
              refine sk 23 ?_
              refine tk 24 ?_
              refine tk 25 ?_
              refine sk 26 ?_
              refine sk 27 ?_
              refine sk 28 ?_
              refine sk 29 ?_
              refine tk 30 ?_
              refine wpAnyH_done (by kernel_rfl) ?_ _
              go_wp2
              go_ret
              exact ⟨(HO.out.alloc _).drew, _, rfl, fun h1 h2 => HBD.out (by unfold SlN; omega) ⟨h1, h2⟩⟩
          · have hi0 : ¬ (((by_ bs (i + 1) : Nat) : Int) < (lo : Int)) := by omega
            have hd0 : decide (((by_ bs (i + 1) : Nat) : Int) < (lo : Int)) = false := decide_eq_false hi0
            by_cases hx1 : hi < by_ bs (i + 1)
            · have hi1 : (hi : Int) < ((by_ bs (i + 1) : Nat) : Int) := by omega
              have hd1 : decide ((hi : Int) < ((by_ bs (i + 1) : Nat) : Int)) = true := decide_eq_true hi1
              as_aux_lemma =>
                go_wp2_with fail
                refine wp_region_held_drew (S := fun w' => w'.cell? ⟨wr.heap.size, 0, none⟩ = some (.int .u8 (lo : Int)) ∧ w'.cell? ⟨wr.heap.size, 1, none⟩ = some (.int .u8 (hi : Int)) ∧ w'.cell? ⟨g, off + i + 1, none⟩ = some (.int .u8 ((by_ bs (i + 1) : Nat) : Int)) ∧ w'.cell? ⟨g, off + i + 2, none⟩ = some (.int .u8 ((by_ bs (i + 2) : Nat) : Int))) (by kernel_rfl) ?hS217 (fun hHeld => ?rest217)
                case hS217 => exact ⟨z0, z1, c1, c2⟩
                refine tk 0 ?_
                refine tk 1 ?_
                refine tk 2 ?_
                refine tk 3 ?_
                refine tk 4 ?_
                refine tk 5 ?_
                refine tk 6 ?_
                refine tk 7 ?_
                refine tk 8 ?_
                refine tk 9 ?_
                refine tk 10 ?_
                refine tk 11 ?_
                refine tk 12 ?_
                refine tk 13 ?_
                refine tk 14 ?_
                refine tk 15 ?_
                refine tk 16 ?_
                refine tk 17 ?_
                refine tk 18 ?_
                refine tk 19 ?_
                refine sk 20 ?_
                refine sk 21 ?_
                refine sk 22 ?_
                refine sk 23 ?_
                refine tk 24 ?_
                refine tk 25 ?_
                refine sk 26 ?_
                refine sk 27 ?_
                refine sk 28 ?_
                refine sk 29 ?_
                refine tk 30 ?_
                refine wpAnyH_done (by kernel_rfl) ?_ _
                go_wp2
                go_ret
                exact ⟨(HO.out.alloc _).drew, _, rfl, fun h1 h2 => HBD.out (by unfold SlN; omega) ⟨h1, h2⟩⟩
            · have hi1 : ¬ ((hi : Int) < ((by_ bs (i + 1) : Nat) : Int)) := by omega
              have hd1 : decide ((hi : Int) < ((by_ bs (i + 1) : Nat) : Int)) = false := decide_eq_false hi1
              by_cases hx2 : by_ bs (i + 2) < 128
              · have hi2 : ((by_ bs (i + 2) : Nat) : Int) < 128 := by omega
                have hd2 : decide (((by_ bs (i + 2) : Nat) : Int) < 128) = true := decide_eq_true hi2
                as_aux_lemma =>
                  go_wp2_with fail
                  refine wp_region_held_drew (S := fun w' => w'.cell? ⟨wr.heap.size, 0, none⟩ = some (.int .u8 (lo : Int)) ∧ w'.cell? ⟨wr.heap.size, 1, none⟩ = some (.int .u8 (hi : Int)) ∧ w'.cell? ⟨g, off + i + 1, none⟩ = some (.int .u8 ((by_ bs (i + 1) : Nat) : Int)) ∧ w'.cell? ⟨g, off + i + 2, none⟩ = some (.int .u8 ((by_ bs (i + 2) : Nat) : Int))) (by kernel_rfl) ?hS249 (fun hHeld => ?rest249)
                  case hS249 => exact ⟨z0, z1, c1, c2⟩
                  refine tk 0 ?_
                  refine tk 1 ?_
                  refine tk 2 ?_
                  refine tk 3 ?_
                  refine tk 4 ?_
                  refine tk 5 ?_
                  refine tk 6 ?_
                  refine tk 7 ?_
                  refine tk 8 ?_
                  refine tk 9 ?_
                  refine tk 10 ?_
                  refine tk 11 ?_
                  refine tk 12 ?_
                  refine tk 13 ?_
                  refine tk 14 ?_
                  refine tk 15 ?_
                  refine tk 16 ?_
                  refine tk 17 ?_
                  refine tk 18 ?_
                  refine tk 19 ?_
                  refine tk 20 ?_
                  refine tk 21 ?_
                  refine tk 22 ?_
                  refine tk 23 ?_
                  refine tk 24 ?_
                  refine tk 25 ?_
                  refine sk 26 ?_
                  refine sk 27 ?_
                  refine sk 28 ?_
                  refine sk 29 ?_
                  refine tk 30 ?_
                  refine wpAnyH_done (by kernel_rfl) ?_ _
                  go_wp2
                  go_ret
                  exact ⟨(HO.out.alloc _).drew, _, rfl, fun h1 h2 => HBD.out (by unfold SlN; omega) ⟨h1, h2⟩⟩
              · have hi2 : ¬ (((by_ bs (i + 2) : Nat) : Int) < 128) := by omega
                have hd2 : decide (((by_ bs (i + 2) : Nat) : Int) < 128) = false := decide_eq_false hi2
                by_cases hx3 : 191 < by_ bs (i + 2)
                · have hi3 : (191 : Int) < ((by_ bs (i + 2) : Nat) : Int) := by omega
                  have hd3 : decide ((191 : Int) < ((by_ bs (i + 2) : Nat) : Int)) = true := decide_eq_true hi3
                  as_aux_lemma =>
                    go_wp2_with fail
                    refine wp_region_held_drew (S := fun w' => w'.cell? ⟨wr.heap.size, 0, none⟩ = some (.int .u8 (lo : Int)) ∧ w'.cell? ⟨wr.heap.size, 1, none⟩ = some (.int .u8 (hi : Int)) ∧ w'.cell? ⟨g, off + i + 1, none⟩ = some (.int .u8 ((by_ bs (i + 1) : Nat) : Int)) ∧ w'.cell? ⟨g, off + i + 2, none⟩ = some (.int .u8 ((by_ bs (i + 2) : Nat) : Int))) (by kernel_rfl) ?hS281 (fun hHeld => ?rest281)
                    case hS281 => exact ⟨z0, z1, c1, c2⟩
                    refine tk 0 ?_
                    refine tk 1 ?_
                    refine tk 2 ?_
                    refine tk 3 ?_
                    refine tk 4 ?_
                    refine tk 5 ?_
                    refine tk 6 ?_
                    refine tk 7 ?_
                    refine tk 8 ?_
                    refine tk 9 ?_
                    refine tk 10 ?_
                    refine tk 11 ?_
                    refine tk 12 ?_
                    refine tk 13 ?_
                    refine tk 14 ?_
                    refine tk 15 ?_
                    refine tk 16 ?_
                    refine tk 17 ?_
                    refine tk 18 ?_
                    refine tk 19 ?_
                    refine tk 20 ?_
                    refine tk 21 ?_
                    refine tk 22 ?_
                    refine tk 23 ?_
                    refine tk 24 ?_
                    refine tk 25 ?_
                    refine tk 26 ?_
                    refine tk 27 ?_
                    refine tk 28 ?_
                    refine tk 29 ?_
                    refine tk 30 ?_
                    refine wpAnyH_done (by kernel_rfl) ?_ _
                    go_wp2
                    go_ret
                    exact ⟨(HO.out.alloc _).drew, _, rfl, fun h1 h2 => HBD.out (by unfold SlN; omega) ⟨h1, h2⟩⟩
                · have hi3 : ¬ ((191 : Int) < ((by_ bs (i + 2) : Nat) : Int)) := by omega
                  have hd3 : decide ((191 : Int) < ((by_ bs (i + 2) : Nat) : Int)) = false := decide_eq_false hi3
                  as_aux_lemma =>
                    go_wp2_with fail
                    refine wp_region_held_drew (S := fun w' => w'.cell? ⟨wr.heap.size, 0, none⟩ = some (.int .u8 (lo : Int)) ∧ w'.cell? ⟨wr.heap.size, 1, none⟩ = some (.int .u8 (hi : Int)) ∧ w'.cell? ⟨g, off + i + 1, none⟩ = some (.int .u8 ((by_ bs (i + 1) : Nat) : Int)) ∧ w'.cell? ⟨g, off + i + 2, none⟩ = some (.int .u8 ((by_ bs (i + 2) : Nat) : Int))) (by kernel_rfl) ?hS313 (fun hHeld => ?rest313)
                    case hS313 => exact ⟨z0, z1, c1, c2⟩
                    refine tk 0 ?_
                    refine tk 1 ?_
                    refine tk 2 ?_
                    refine tk 3 ?_
                    refine tk 4 ?_
                    refine tk 5 ?_
                    refine tk 6 ?_
                    refine tk 7 ?_
                    refine tk 8 ?_
                    refine tk 9 ?_
                    refine tk 10 ?_
                    refine tk 11 ?_
                    refine tk 12 ?_
                    refine tk 13 ?_
                    refine tk 14 ?_
                    refine tk 15 ?_
                    refine tk 16 ?_
                    refine tk 17 ?_
                    refine tk 18 ?_
                    refine tk 19 ?_
                    refine tk 20 ?_
                    refine tk 21 ?_
                    refine tk 22 ?_
                    refine tk 23 ?_
                    refine tk 24 ?_
                    refine tk 25 ?_
                    refine tk 26 ?_
                    refine tk 27 ?_
                    refine tk 28 ?_
                    refine tk 29 ?_
                    refine tk 30 ?_
                    refine wpAnyH_done (by kernel_rfl) ?_ _
                    go_wp2
                    exact ⟨⟨i + 3, m - 3, VI.next 3 (by omega) ((HO.out.alloc _).drew) (fun h => if_neg (by omega)) (by omega) (fun h => by have := HGD.out (by unfold SlN; omega) (by decide) h; exact ⟨by omega, by omega⟩)⟩, by show m - 3 < m; omega⟩
      · obtain ⟨v, hv⟩ : ∃ v, Lib.firstT (by_ bs i) = v := ⟨_, rfl⟩
        rw [hv] at f0 hF
        obtain ⟨hv240, hvs, hvr⟩ := hF
        obtain ⟨row, hrow⟩ : ∃ row, v / 16 = row := ⟨_, rfl⟩
        have hge : ¬ (((by_ bs i : Nat) : Int) < 128) := by have := ge_of hv (by omega); omega
        have hgd : decide (((by_ bs i : Nat) : Int) < 128) = false := decide_eq_false hge
        obtain ⟨ha0, ha1⟩ := (tabs_out HT.out HO.out).2 row (by omega)
        have HBD := hid_mk (os_bad HB.out him HI.out hv hv240 (sz := 4) (lo := Lib.accLo row) (hi := Lib.accHi row) hvs (by rw [hrow]) (by rw [hrow]))
        have HGD := hid_mk (os_good HB.out him HI.out hv hv240 (sz := 4) (lo := Lib.accLo row) (hi := Lib.accHi row) hvs (by rw [hrow]) (by rw [hrow]))
        have hv8 : (v : Int) % 8 = 4 := by omega
        have hv16 : (v : Int) / 16 = (row : Int) := by omega
        have hr16 : (row : Int) < 16 := by omega
        have hr0 : (0 : Int) ≤ (row : Int) := by omega
        rw [Nat.mul_comm] at ha0 ha1
        generalize Lib.accLo row = lo at *
        generalize Lib.accHi row = hi at *
        clear hv hvs hrow hvr hv240
        have z0 := (Bl.new wr #[.int .u8 (lo : Int), .int .u8 (hi : Int)] 229).cell (i := 0) rfl
        have z1 := (Bl.new wr #[.int .u8 (lo : Int), .int .u8 (hi : Int)] 229).cell (i := 1) rfl
        by_cases hs : m < 4
        · have hsi : (m : Int) < 4 := by omega
          have hsd : decide ((m : Int) < 4) = true := decide_eq_true hsi
          as_aux_lemma =>
            go_wp2_with fail
            refine wp_region_held_drew (S := fun w' => Out 0 0 W w') (by kernel_rfl) ?hS345 (fun hHeld => ?rest345)
            case hS345 => exact (HO.out.alloc _).drew
            refine tk 0 ?_
            refine tk 1 ?_
            refine tk 2 ?_
            refine tk 3 ?_
            refine sk 4 ?_
            refine sk 5 ?_
            refine sk 6 ?_
            refine sk 7 ?_
            refine sk 8 ?_
            refine sk 9 ?_
            refine tk 10 ?_
            refine tk 11 ?_
            refine sk 12 ?_
            refine sk 13 ?_
            refine sk 14 ?_
            refine sk 15 ?_
            refine sk 16 ?_
            refine sk 17 ?_
            refine tk 18 ?_
            refine tk 19 ?_
            refine sk 20 ?_
            refine sk 21 ?_
            refine sk 22 ?_
            refine sk 23 ?_
            refine tk 24 ?_
            refine tk 25 ?_
            refine sk 26 ?_
            refine sk 27 ?_
            refine sk 28 ?_
            refine sk 29 ?_
            refine tk 30 ?_
            refine tk 31 ?_
            refine sk 32 ?_
            refine sk 33 ?_
            refine sk 34 ?_
            refine sk 35 ?_
            refine tk 36 ?_
            refine tk 37 ?_
            refine sk 38 ?_
            refine sk 39 ?_
            refine sk 40 ?_
            refine sk 41 ?_
            refine tk 42 ?_
            refine wpAnyH_done (by kernel_rfl) ?_ _
            go_wp2
            go_ret
            exact ⟨(HO.out.alloc _).drew, _, rfl, fun h1 h2 => HBD.out (.inl hs) ⟨h1, h2⟩⟩
        · have hsi : ¬ ((m : Int) < 4) := by omega
          have hsd : decide ((m : Int) < 4) = false := decide_eq_false hsi
          have hy1 : (1 : Int) < (m : Int) := by omega
          have c1 := (HO.out.alloc (.cells #[.int .u8 (lo : Int), .int .u8 (hi : Int)] 229)).cell (HC.out (i + 1) (by omega)) (.inr (Nat.zero_le _))
          rw [← Nat.add_assoc] at c1
          have hy2 : (2 : Int) < (m : Int) := by omega
          have c2 := (HO.out.alloc (.cells #[.int .u8 (lo : Int), .int .u8 (hi : Int)] 229)).cell (HC.out (i + 2) (by omega)) (.inr (Nat.zero_le _))
          rw [← Nat.add_assoc] at c2
          have hy3 : (3 : Int) < (m : Int) := by omega
          have c3 := (HO.out.alloc (.cells #[.int .u8 (lo : Int), .int .u8 (hi : Int)] 229)).cell (HC.out (i + 3) (by omega)) (.inr (Nat.zero_le _))
          rw [← Nat.add_assoc] at c3
          by_cases hx0 : by_ bs (i + 1) < lo
          · have hi0 : ((by_ bs (i + 1) : Nat) : Int) < (lo : Int) := by omega
            have hd0 : decide (((by_ bs (i + 1) : Nat) : Int) < (lo : Int)) = true := decide_eq_true hi0
            as_aux_lemma =>
              go_wp2_with fail
              refine wp_region_held_drew (S := fun w' => w'.cell? ⟨wr.heap.size, 0, none⟩ = some (.int .u8 (lo : Int)) ∧ w'.cell? ⟨wr.heap.size, 1, none⟩ = some (.int .u8 (hi : Int)) ∧ w'.cell? ⟨g, off + i + 1, none⟩ = some (.int .u8 ((by_ bs (i + 1) : Nat) : Int)) ∧ w'.cell? ⟨g, off + i + 2, none⟩ = some (.int .u8 ((by_ bs (i + 2) : Nat) : Int)) ∧ w'.cell? ⟨g, off + i + 3, none⟩ = some (.int .u8 ((by_ bs (i + 3) : Nat) : Int))) (by kernel_rfl) ?hS389 (fun hHeld => ?rest389)
              case hS389 => exact ⟨z0, z1, c1, c2, c3⟩
              refine tk 0 ?_
              refine tk 1 ?_
              refine tk 2 ?_
              refine tk 3 ?_
              refine tk 4 ?_
              refine tk 5 ?_
              refine tk 6 ?_
              refine tk 7 ?_
              refine tk 8 ?_
              refine tk 9 ?_
              refine tk 10 ?_
              refine tk 11 ?_
              refine sk 12 ?_
              refine sk 13 ?_
              refine sk 14 ?_
              refine sk 15 ?_
              refine sk 16 ?_
              refine sk 17 ?_
              refine tk 18 ?_
              refine tk 19 ?_
              refine sk 20 ?_
              refine sk 21 ?_
              refine sk 22 ?_
              refine sk 23 ?_
              refine tk 24 ?_
              refine tk 25 ?_
              refine sk 26 ?_
              refine sk 27 ?_
              refine sk 28 ?_
              refine sk 29 ?_
              refine tk 30 ?_
              refine tk 31 ?_
              refine sk 32 ?_
              refine sk 33 ?_
              refine sk 34 ?_
              refine sk 35 ?_
              refine tk 36 ?_
              refine tk 37 ?_
              refine sk 38 ?_
              refine sk 39 ?_
              refine sk 40 ?_
              refine sk 41 ?_
              refine tk 42 ?_
              refine wpAnyH_done (by kernel_rfl) ?_ _
              go_wp2
              go_ret
              exact ⟨(HO.out.alloc _).drew, _, rfl, fun h1 h2 => HBD.out (by unfold SlN; omega) ⟨h1, h2⟩⟩
          · have hi0 : ¬ (((by_ bs (i + 1) : Nat) : Int) < (lo : Int)) := by omega
            have hd0 : decide (((by_ bs (i + 1) : Nat) : Int) < (lo : Int)) = false := decide_eq_false hi0
            by_cases hx1 : hi < by_ bs (i + 1)
            · have hi1 : (hi : Int) < ((by_ bs (i + 1) : Nat) : Int) := by omega
              have hd1 : decide ((hi : Int) < ((by_ bs (i + 1) : Nat) : Int)) = true := decide_eq_true hi1
              as_aux_lemma =>
                go_wp2_with fail
                refine wp_region_held_drew (S := fun w' => w'.cell? ⟨wr.heap.size, 0, none⟩ = some (.int .u8 (lo : Int)) ∧ w'.cell? ⟨wr.heap.size, 1, none⟩ = some (.int .u8 (hi : Int)) ∧ w'.cell? ⟨g, off + i + 1, none⟩ = some (.int .u8 ((by_ bs (i + 1) : Nat) : Int)) ∧ w'.cell? ⟨g, off + i + 2, none⟩ = some (.int .u8 ((by_ bs (i + 2) : Nat) : Int)) ∧ w'.cell? ⟨g, off + i + 3, none⟩ = some (.int .u8 ((by_ bs (i + 3) : Nat) : Int))) (by kernel_rfl) ?hS433 (fun hHeld => ?rest433)
                case hS433 => exact ⟨z0, z1, c1, c2, c3⟩
                refine tk 0 ?_
                refine tk 1 ?_
                refine tk 2 ?_
                refine tk 3 ?_
                refine tk 4 ?_
                refine tk 5 ?_
                refine tk 6 ?_
                refine tk 7 ?_
                refine tk 8 ?_
                refine tk 9 ?_
                refine tk 10 ?_
                refine tk 11 ?_
                refine tk 12 ?_
                refine tk 13 ?_
                refine tk 14 ?_
                refine tk 15 ?_
                refine tk 16 ?_
                refine tk 17 ?_
                refine tk 18 ?_
                refine tk 19 ?_
                refine sk 20 ?_
                refine sk 21 ?_
                refine sk 22 ?_
                refine sk 23 ?_
                refine tk 24 ?_
                refine tk 25 ?_
                refine sk 26 ?_
                refine sk 27 ?_
                refine sk 28 ?_
                refine sk 29 ?_
                refine tk 30 ?_
                refine tk 31 ?_
                refine sk 32 ?_
                refine sk 33 ?_
                refine sk 34 ?_
                refine sk 35 ?_
                refine tk 36 ?_
                refine tk 37 ?_
                refine sk 38 ?_
                refine sk 39 ?_
                refine sk 40 ?_
                refine sk 41 ?_
                refine tk 42 ?_
                refine wpAnyH_done (by kernel_rfl) ?_ _
                go_wp2
                go_ret
                exact ⟨(HO.out.alloc _).drew, _, rfl, fun h1 h2 => HBD.out (by unfold SlN; omega) ⟨h1, h2⟩⟩
            · have hi1 : ¬ ((hi : Int) < ((by_ bs (i + 1) : Nat) : Int)) := by omega
              have hd1 : decide ((hi : Int) < ((by_ bs (i + 1) : Nat) : Int)) = false := decide_eq_false hi1
              by_cases hx2 : by_ bs (i + 2) < 128
              · have hi2 : ((by_ bs (i + 2) : Nat) : Int) < 128 := by omega
                have hd2 : decide (((by_ bs (i + 2) : Nat) : Int) < 128) = true := decide_eq_true hi2
                as_aux_lemma =>
                  go_wp2_with fail
                  refine wp_region_held_drew (S := fun w' => w'.cell? ⟨wr.heap.size, 0, none⟩ = some (.int .u8 (lo : Int)) ∧ w'.cell? ⟨wr.heap.size, 1, none⟩ = some (.int .u8 (hi : Int)) ∧ w'.cell? ⟨g, off + i + 1, none⟩ = some (.int .u8 ((by_ bs (i + 1) : Nat) : Int)) ∧ w'.cell? ⟨g, off + i + 2, none⟩ = some (.int .u8 ((by_ bs (i + 2) : Nat) : Int)) ∧ w'.cell? ⟨g, off + i + 3, none⟩ = some (.int .u8 ((by_ bs (i + 3) : Nat) : Int))) (by kernel_rfl) ?hS477 (fun hHeld => ?rest477)
                  case hS477 => exact ⟨z0, z1, c1, c2, c3⟩
                  refine tk 0 ?_
                  refine tk 1 ?_
                  refine tk 2 ?_
                  refine tk 3 ?_
                  refine tk 4 ?_
                  refine tk 5 ?_
                  refine tk 6 ?_
                  refine tk 7 ?_
                  refine tk 8 ?_
                  refine tk 9 ?_
                  refine tk 10 ?_
                  refine tk 11 ?_
                  refine tk 12 ?_
                  refine tk 13 ?_
                  refine tk 14 ?_
                  refine tk 15 ?_
                  refine tk 16 ?_
                  refine tk 17 ?_
                  refine tk 18 ?_
                  refine tk 19 ?_
                  refine tk 20 ?_
                  refine tk 21 ?_
                  refine tk 22 ?_
                  refine tk 23 ?_
                  refine tk 24 ?_
                  refine tk 25 ?_
                  refine sk 26 ?_
                  refine sk 27 ?_
                  refine sk 28 ?_
                  refine sk 29 ?_
                  refine tk 30 ?_
                  refine tk 31 ?_
                  refine sk 32 ?_
                  refine sk 33 ?_
                  refine sk 34 ?_
                  refine sk 35 ?_
                  refine tk 36 ?_
                  refine tk 37 ?_
                  refine sk 38 ?_
                  refine sk 39 ?_
                  refine sk 40 ?_
                  refine sk 41 ?_
                  refine tk 42 ?_
                  refine wpAnyH_done (by kernel_rfl) ?_ _
                  go_wp2
                  go_ret
                  exact ⟨(HO.out.alloc _).drew, _, rfl, fun h1 h2 => HBD.out (by unfold SlN; omega) ⟨h1, h2⟩⟩
              · have hi2 : ¬ (((by_ bs (i + 2) : Nat) : Int) < 128) := by omega
                have hd2 : decide (((by_ bs (i + 2) : Nat) : Int) < 128) = false := decide_eq_false hi2
                by_cases hx3 : 191 < by_ bs (i + 2)
                · have hi3 : (191 : Int) < ((by_ bs (i + 2) : Nat) : Int) := by omega
                  have hd3 : decide ((191 : Int) < ((by_ bs (i + 2) : Nat) : Int)) = true := decide_eq_true hi3
                  as_aux_lemma =>
                    go_wp2_with fail
                    refine wp_region_held_drew (S := fun w' => w'.cell? ⟨wr.heap.size, 0, none⟩ = some (.int .u8 (lo : Int)) ∧ w'.cell? ⟨wr.heap.size, 1, none⟩ = some (.int .u8 (hi : Int)) ∧ w'.cell? ⟨g, off + i + 1, none⟩ = some (.int .u8 ((by_ bs (i + 1) : Nat) : Int)) ∧ w'.cell? ⟨g, off + i + 2, none⟩ = some (.int .u8 ((by_ bs (i + 2) : Nat) : Int)) ∧ w'.cell? ⟨g, off + i + 3, none⟩ = some (.int .u8 ((by_ bs (i + 3) : Nat) : Int))) (by kernel_rfl) ?hS521 (fun hHeld => ?rest521)
                    case hS521 => exact ⟨z0, z1, c1, c2, c3⟩
                    refine tk 0 ?_
                    refine tk 1 ?_
                    refine tk 2 ?_
                    refine tk 3 ?_
                    refine tk 4 ?_
                    refine tk 5 ?_
                    refine tk 6 ?_
                    refine tk 7 ?_
                    refine tk 8 ?_
                    refine tk 9 ?_
                    refine tk 10 ?_
                    refine tk 11 ?_
                    refine tk 12 ?_
                    refine tk 13 ?_
                    refine tk 14 ?_
                    refine tk 15 ?_
                    refine tk 16 ?_
                    refine tk 17 ?_
                    refine tk 18 ?_
                    refine tk 19 ?_
                    refine tk 20 ?_
                    refine tk 21 ?_
                    refine tk 22 ?_
                    refine tk 23 ?_
                    refine tk 24 ?_
                    refine tk 25 ?_
                    refine tk 26 ?_
                    refine tk 27 ?_
                    refine tk 28 ?_
                    refine tk 29 ?_
                    refine tk 30 ?_
                    refine tk 31 ?_
                    refine sk 32 ?_
                    refine sk 33 ?_
                    refine sk 34 ?_
                    refine sk 35 ?_
                    refine tk 36 ?_
                    refine tk 37 ?_
                    refine sk 38 ?_
                    refine sk 39 ?_
                    refine sk 40 ?_
                    refine sk 41 ?_
                    refine tk 42 ?_
                    refine wpAnyH_done (by kernel_rfl) ?_ _
                    go_wp2
                    go_ret
                    exact ⟨(HO.out.alloc _).drew, _, rfl, fun h1 h2 => HBD.out (by unfold SlN; omega) ⟨h1, h2⟩⟩
                · have hi3 : ¬ ((191 : Int) < ((by_ bs (i + 2) : Nat) : Int)) := by omega
                  have hd3 : decide ((191 : Int) < ((by_ bs (i + 2) : Nat) : Int)) = false := decide_eq_false hi3
                  by_cases hx4 : by_ bs (i + 3) < 128
                  · have hi4 : ((by_ bs (i + 3) : Nat) : Int) < 128 := by omega
                    have hd4 : decide (((by_ bs (i + 3) : Nat) : Int) < 128) = true := decide_eq_true hi4
                    as_aux_lemma =>
                      go_wp2_with fail
                      refine wp_region_held_drew (S := fun w' => w'.cell? ⟨wr.heap.size, 0, none⟩ = some (.int .u8 (lo : Int)) ∧ w'.cell? ⟨wr.heap.size, 1, none⟩ = some (.int .u8 (hi : Int)) ∧ w'.cell? ⟨g, off + i + 1, none⟩ = some (.int .u8 ((by_ bs (i + 1) : Nat) : Int)) ∧ w'.cell? ⟨g, off + i + 2, none⟩ = some (.int .u8 ((by_ bs (i + 2) : Nat) : Int)) ∧ w'.cell? ⟨g, off + i + 3, none⟩ = some (.int .u8 ((by_ bs (i + 3) : Nat) : Int))) (by kernel_rfl) ?hS565 (fun hHeld => ?rest565)
                      case hS565 => exact ⟨z0, z1, c1, c2, c3⟩
                      refine tk 0 ?_
                      refine tk 1 ?_
                      refine tk 2 ?_
                      refine tk 3 ?_
                      refine tk 4 ?_
                      refine tk 5 ?_
                      refine tk 6 ?_
                      refine tk 7 ?_
                      refine tk 8 ?_
                      refine tk 9 ?_
                      refine tk 10 ?_
                      refine tk 11 ?_
                      refine tk 12 ?_
                      refine tk 13 ?_
                      refine tk 14 ?_
                      refine tk 15 ?_
                      refine tk 16 ?_
                      refine tk 17 ?_
                      refine tk 18 ?_
                      refine tk 19 ?_
                      refine tk 20 ?_
                      refine tk 21 ?_
                      refine tk 22 ?_
                      refine tk 23 ?_
                      refine tk 24 ?_
                      refine tk 25 ?_
                      refine tk 26 ?_
                      refine tk 27 ?_
                      refine tk 28 ?_
                      refine tk 29 ?_
                      refine tk 30 ?_
                      refine tk 31 ?_
                      refine tk 32 ?_
                      refine tk 33 ?_
                      refine tk 34 ?_
                      refine tk 35 ?_
                      refine tk 36 ?_
                      refine tk 37 ?_
                      refine sk 38 ?_
                      refine sk 39 ?_
                      refine sk 40 ?_
                      refine sk 41 ?_
                      refine tk 42 ?_
                      refine wpAnyH_done (by kernel_rfl) ?_ _
                      go_wp2
                      go_ret
                      exact ⟨(HO.out.alloc _).drew, _, rfl, fun h1 h2 => HBD.out (by unfold SlN; omega) ⟨h1, h2⟩⟩
                  · have hi4 : ¬ (((by_ bs (i + 3) : Nat) : Int) < 128) := by omega
                    have hd4 : decide (((by_ bs (i + 3) : Nat) : Int) < 128) = false := decide_eq_false hi4
                    by_cases hx5 : 191 < by_ bs (i + 3)
                    · have hi5 : (191 : Int) < ((by_ bs (i + 3) : Nat) : Int) := by omega
                      have hd5 : decide ((191 : Int) < ((by_ bs (i + 3) : Nat) : Int)) = true := decide_eq_true hi5
                      as_aux_lemma =>
                        go_wp2_with fail
                        refine wp_region_held_drew (S := fun w' => w'.cell? ⟨wr.heap.size, 0, none⟩ = some (.int .u8 (lo : Int)) ∧ w'.cell? ⟨wr.heap.size, 1, none⟩ = some (.int .u8 (hi : Int)) ∧ w'.cell? ⟨g, off + i + 1, none⟩ = some (.int .u8 ((by_ bs (i + 1) : Nat) : Int)) ∧ w'.cell? ⟨g, off + i + 2, none⟩ = some (.int .u8 ((by_ bs (i + 2) : Nat) : Int)) ∧ w'.cell? ⟨g, off + i + 3, none⟩ = some (.int .u8 ((by_ bs (i + 3) : Nat) : Int))) (by kernel_rfl) ?hS609 (fun hHeld => ?rest609)
                        case hS609 => exact ⟨z0, z1, c1, c2, c3⟩
                        refine tk 0 ?_
                        refine tk 1 ?_
                        refine tk 2 ?_
                        refine tk 3 ?_
                        refine tk 4 ?_
                        refine tk 5 ?_
                        refine tk 6 ?_
                        refine tk 7 ?_
                        refine tk 8 ?_
                        refine tk 9 ?_
                        refine tk 10 ?_
                        refine tk 11 ?_
                        refine tk 12 ?_
                        refine tk 13 ?_
                        refine tk 14 ?_
                        refine tk 15 ?_
                        refine tk 16 ?_
                        refine tk 17 ?_
                        refine tk 18 ?_
                        refine tk 19 ?_
                        refine tk 20 ?_
                        refine tk 21 ?_
                        refine tk 22 ?_
                        refine tk 23 ?_
                        refine tk 24 ?_
                        refine tk 25 ?_
                        refine tk 26 ?_
                        refine tk 27 ?_
                        refine tk 28 ?_
                        refine tk 29 ?_
                        refine tk 30 ?_
                        refine tk 31 ?_
                        refine tk 32 ?_
                        refine tk 33 ?_
                        refine tk 34 ?_
                        refine tk 35 ?_
                        refine tk 36 ?_
                        refine tk 37 ?_
                        refine tk 38 ?_
                        refine tk 39 ?_
                        refine tk 40 ?_
                        refine tk 41 ?_
                        refine tk 42 ?_
                        refine wpAnyH_done (by kernel_rfl) ?_ _
                        go_wp2
                        go_ret
                        exact ⟨(HO.out.alloc _).drew, _, rfl, fun h1 h2 => HBD.out (by unfold SlN; omega) ⟨h1, h2⟩⟩
                    · have hi5 : ¬ ((191 : Int) < ((by_ bs (i + 3) : Nat) : Int)) := by omega
                      have hd5 : decide ((191 : Int) < ((by_ bs (i + 3) : Nat) : Int)) = false := decide_eq_false hi5
                      as_aux_lemma =>
                        go_wp2_with fail
                        refine wp_region_held_drew (S := fun w' => w'.cell? ⟨wr.heap.size, 0, none⟩ = some (.int .u8 (lo : Int)) ∧ w'.cell? ⟨wr.heap.size, 1, none⟩ = some (.int .u8 (hi : Int)) ∧ w'.cell? ⟨g, off + i + 1, none⟩ = some (.int .u8 ((by_ bs (i + 1) : Nat) : Int)) ∧ w'.cell? ⟨g, off + i + 2, none⟩ = some (.int .u8 ((by_ bs (i + 2) : Nat) : Int)) ∧ w'.cell? ⟨g, off + i + 3, none⟩ = some (.int .u8 ((by_ bs (i + 3) : Nat) : Int))) (by kernel_rfl) ?hS653 (fun hHeld => ?rest653)
                        case hS653 => exact ⟨z0, z1, c1, c2, c3⟩
                        refine tk 0 ?_
                        refine tk 1 ?_
                        refine tk 2 ?_
                        refine tk 3 ?_
                        refine tk 4 ?_
                        refine tk 5 ?_
                        refine tk 6 ?_
                        refine tk 7 ?_
                        refine tk 8 ?_
                        refine tk 9 ?_
                        refine tk 10 ?_
                        refine tk 11 ?_
                        refine tk 12 ?_
                        refine tk 13 ?_
                        refine tk 14 ?_
                        refine tk 15 ?_
                        refine tk 16 ?_
                        refine tk 17 ?_
                        refine tk 18 ?_
                        refine tk 19 ?_
                        refine tk 20 ?_
                        refine tk 21 ?_
                        refine tk 22 ?_
                        refine tk 23 ?_
                        refine tk 24 ?_
                        refine tk 25 ?_
                        refine tk 26 ?_
                        refine tk 27 ?_
                        refine tk 28 ?_
                        refine tk 29 ?_
                        refine tk 30 ?_
                        refine tk 31 ?_
                        refine tk 32 ?_
                        refine tk 33 ?_
                        refine tk 34 ?_
                        refine tk 35 ?_
                        refine tk 36 ?_
                        refine tk 37 ?_
                        refine tk 38 ?_
                        refine tk 39 ?_
                        refine tk 40 ?_
                        refine tk 41 ?_
                        refine tk 42 ?_
                        refine wpAnyH_done (by kernel_rfl) ?_ _
                        go_wp2
                        exact ⟨⟨i + 4, m - 4, VI.next 4 (by omega) ((HO.out.alloc _).drew) (fun h => if_neg (by omega)) (by omega) (fun h => by have := HGD.out (by unfold SlN; omega) (by decide) h; exact ⟨by omega, by omega⟩)⟩, by show m - 4 < m; omega⟩
    · have h0 : m = 0 := by omega
      subst h0
      clear hO hOs hadr
      go_wp2
      go_ret
      exact ⟨HO.out, _, rfl, fun h1 h2 => by
        rcases HS.out ⟨h1, h2⟩ with q | q
        · omega
        · exact (decide_eq_true q.2).symm⟩
end Go.Proofs.YtcnjlbjpeklgkaaGreatDoor
