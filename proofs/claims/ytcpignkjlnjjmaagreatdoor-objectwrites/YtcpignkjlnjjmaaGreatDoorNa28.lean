import Derived.Test.YtcpignkjlnjjmaaGreatDoorNa27
import Derived.Test.YtcpignkjlnjjmaaGreatDoorNa25
import Derived.Test.YtcpignkjlnjjmaaGreatDoorNa12
namespace Go.Proofs.YtcpignkjlnjjmaaGreatDoor
open Go.RowKit
set_option linter.unusedVariables false
set_option linter.unusedSimpArgs false

theorem NewS {w : World} (hT : Tab w) (n : Nat) (h1 : 1 ≤ n) (h2 : n ≤ 4096) :
    Calls Tryz.prog 7 #[.int .i64 n] w fun e w' => ∃ s cap hi hb, e = .returned (.tuple #[.pointer (some ⟨hb, 0, none⟩), .int .i64 0]) ∧ SpAt w' w.heap.size hi s n cap newSp ∧ hi ≤ hb ∧ w'.cell? ⟨hb, 0, none⟩ = some (.pointer (some ⟨s 14, 0, none⟩)) ∧ Out 0 0 w w' := by
  refine (New_yes hT n h1 h2).mono ?_
  rintro e w' ⟨s, cap, hi, hb, rfl, hr, h3, h4, h5⟩
  refine ⟨s, cap, hi, hb, rfl, ⟨?_, inv_new h1 h2⟩, h3, h4, h5⟩
  rw [← raw_new]
  exact hr
/-- a pair in a heap of one page -/
theorem al1 : (alF 1 newSp 1 3 0).1 = 0 ∧ (alF 1 newSp 1 3 0).2.1 = 0 ∧ (alF 1 newSp 1 3 0).2.2.1 = 0 := by decide +kernel
theorem al2 : (rawOf 1 (alF 1 newSp 1 3 0).2.2.2).M 0 = some (1, 3, 1, 0) := by decide +kernel
theorem al3 : opE (rawOf 1 (wSpO (alF 1 newSp 1 3 0).2.2.2 (mkF 1 0 1 3 (alF 1 newSp 1 3 0).2.2.2.W (flds_o 1 3)))) 2 0 = 0 := by decide +kernel
theorem al4 : fieldB (roleV 1 3 1) = true ∧ validB_v 1 5 = true ∧ sizeB 1 0 = true ∧ sizeV 1 0 = 3 := by decide +kernel
theorem al5 : rgB (rawOf 1 (wSpO (alF 1 newSp 1 3 0).2.2.2 (mkF 1 0 1 3 (alF 1 newSp 1 3 0).2.2.2.W (flds_o 1 3)))) 0 (1, 3, 1, 0) (roleV 1 3 1) (5 * 8 + (1 - 1)) = true := by decide +kernel
end Go.Proofs.YtcpignkjlnjjmaaGreatDoor
namespace Go.Proofs.YtcpignkjlnjjmaaGreatDoor
open Go.RowKit
set_option linter.unusedVariables false
set_option linter.unusedSimpArgs false

theorem Set_yesS {w : World} {lo hi hb n cap : Nat} {s : Nat → Nat} {st : Sp} (h : SpAt w lo hi s n cap st) (hH : w.cell? ⟨hb, 0, none⟩ = some (.pointer (some ⟨s 14, 0, none⟩))) (hout : hb < lo ∨ hi ≤ hb) (k m i xk xn : Int) {t1 t2 t3 t4 : Int} (hM : (rawOf n st).M m = some (t1, t2, t3, t4)) (hop : opE (rawOf n st) k m = 0) (hf : fieldB (roleV t1 t2 i) = true) (hx : validB_v xk xn = true) (hg : rgB (rawOf n st) m (t1, t2, t3, t4) (roleV t1 t2 i) (xn * 8 + (xk - 1)) = true) :
    Calls Tryz.prog 16 #[.pointer (some ⟨hb, 0, none⟩), .agg #[.int .i64 k, .int .i64 m], .int .i64 i, .agg #[.int .i64 xk, .int .i64 xn]] w fun e w' => e = .returned (.agg #[.int .i64 0, .int .i64 0]) ∧ SpAt w' lo hi s n cap (wSpO st (pokeW n st.W (m + i) (xn * 8 + (xk - 1)))) ∧ Out lo hi w w' :=
  (Set_yes h.1 (arenaO h.2) hH k m i xk xn hM hop hf hx hg hout).mono fun e w' ⟨h1, h2, h3⟩ => ⟨h1, ⟨h2, wO_inv h.2 _⟩, h3⟩
theorem aliveP : ∃ st1 st2 st3, (alF 1 newSp 1 3 0).2.2.2 = st1 ∧ wSpO st1 (mkF 1 0 1 3 st1.W (flds_o 1 3)) = st2 ∧ wSpO st2 (pokeW 1 st2.W (0 + 1) (5 * 8 + (1 - 1))) = st3 ∧ (rawOf 1 st1).M 0 = some (1, 3, 1, 0) ∧ (rawOf 1 st2).M 0 = some (1, 3, 1, 0) ∧ (rawOf 1 st3).M 0 = some (1, 3, 1, 0) ∧
    opE (rawOf 1 st2) 2 0 = 0 ∧ opE (rawOf 1 st3) 2 0 = 0 ∧ rgB (rawOf 1 st2) 0 (1, 3, 1, 0) (roleV 1 3 1) (5 * 8 + (1 - 1)) = true ∧ peekV 1 (rawOf 1 st3).W (0 + 1) = 40 ∧ rgB (rawOf 1 st3) 0 (1, 3, 1, 0) (roleV 1 3 1) (peekV 1 (rawOf 1 st3).W (0 + 1)) = true :=
  ⟨_, _, _, rfl, rfl, rfl, by decide +kernel, by decide +kernel, by decide +kernel, by decide +kernel, by decide +kernel, by decide +kernel, by decide +kernel, by decide +kernel⟩
set_option maxRecDepth 100000 in
set_option maxHeartbeats 2000000 in
theorem alive_any {w : World} (hT : Tab w) : Calls Tryz.prog 6 #[] w fun e w' => e = .returned (.bool true) ∧ Out 0 0 w w' := by
  obtain ⟨st1, st2, st3, e1, e2, e3, m1, m2, m3, p2, p3, g2, pk, g3⟩ := aliveP
  have HN := hid_mk (NewS hT 1 (Nat.le_refl 1) (by omega))
  rw [show ((1 : Nat) : Int) = 1 from rfl] at HN
  have HA := hid_mk (And.intro e1 (And.intro e2 (And.intro e3 (And.intro m1 (And.intro m2 (And.intro m3 (And.intro p2 (And.intro p3 (And.intro g2 (And.intro pk g3))))))))))
  clear hT e1 e2 e3 m1 m2 m3 p2 p3 g2 pk g3
  go_enter Tryz.func6, Tryz.ntmps6
  go_wp2_with fail
  refine HN.out.mono ?_
  rintro e X1 ⟨s, cap, hi, hb, rfl, S1, hh, hc, o1⟩
  obtain ⟨lo, hlo⟩ : ∃ lo, w.heap.size = lo := ⟨_, rfl⟩
  have HLo := hid_mk (Nat.le_of_eq hlo)
  rw [hlo] at S1
  have HM := hid_mk (Make_ok S1 hc (.inr hh) 1 0 0 (by decide) (z := 3) (a := 0) (fa := 0) al4.2.2.1 al4.2.2.2 (by decide) (by decide) (by decide) al1.1 al1.2.1 al1.2.2 al2)
  have HO1 := hid_mk o1
  clear HN hlo
  go_wp2_with fail
  refine HM.out.mono ?_
  rintro e X2 ⟨rfl, S2, o2⟩
  go_wp2_with fail
  have fA := hid_mk (three_first (w := X2) (o := .cells #[.int .i64 2, .int .i64 0] 31) (o2 := .cells #[.int .i64 0, .int .i64 0] 33) (o3 := .cells #[.int .i64 1, .int .i64 5] 31))
  have fF := hid_mk (three_second (w := X2) (o := .cells #[.int .i64 2, .int .i64 0] 31) (o2 := .cells #[.int .i64 0, .int .i64 0] 33) (o3 := .cells #[.int .i64 1, .int .i64 5] 31))
  have f5 := hid_mk (three_third (w := X2) (o := .cells #[.int .i64 2, .int .i64 0] 31) (o2 := .cells #[.int .i64 0, .int .i64 0] 33) (o3 := .cells #[.int .i64 1, .int .i64 5] 31))
  have o3 := (((Out.refl 0 0 X2).alloc (.cells #[.int .i64 2, .int .i64 0] 31)).alloc (.cells #[.int .i64 0, .int .i64 0] 33)).alloc (.cells #[.int .i64 1, .int .i64 5] 31)
  obtain ⟨ga, hga⟩ : ∃ g, X2.heap.size = g := ⟨_, rfl⟩
  obtain ⟨V3, hV3⟩ : ∃ V, ((X2.alloc (.cells #[.int .i64 2, .int .i64 0] 31)).alloc (.cells #[.int .i64 0, .int .i64 0] 33)).alloc (.cells #[.int .i64 1, .int .i64 5] 31) = V := ⟨_, rfl⟩
  rw [hV3, hga] at fA fF f5
  rw [hV3] at o3
  have Hga : Hid (hi ≤ ga) := by rw [← hga]; exact S2.1.top
  have hc3 := o3.cell (o2.cell hc (.inr hh)) (.inr (Nat.zero_le _))
  have HS := hid_mk (Set_yesS (S2.quiet o3) hc3 (.inr hh) 2 0 1 1 5 (by rw [HA.out.1, HA.out.2.1]; exact HA.out.2.2.2.2.1) (by rw [HA.out.1, HA.out.2.1]; exact HA.out.2.2.2.2.2.2.1) al4.1 al4.2.1 (by rw [HA.out.1, HA.out.2.1]; exact HA.out.2.2.2.2.2.2.2.2.1))
  rw [HA.out.1, HA.out.2.1, HA.out.2.2.1] at HS
  have HO3 := hid_mk ((HO1.out.then o2 HLo.out).trans o3)
  have Hhc := hid_mk hc3
  rw [hV3, hga]
  clear hV3 hga S2 o2 o3 hc hc3
  refine HS.out.mono ?_
  rintro e X4 ⟨rfl, S4, o4⟩
  have o5 := (Out.refl 0 0 X4).alloc (.cells #[.int .i64 0, .int .i64 0] 33)
  have fA5 := o5.heap (o4.heap fA.out (.inr Hga.out)) (.inr (Nat.zero_le _))
  have fF5 := o5.heap (o4.heap fF.out (.inr (Nat.le_succ_of_le Hga.out))) (.inr (Nat.zero_le _))
  have f55 := o5.heap (o4.heap f5.out (.inr (Nat.le_succ_of_le (Nat.le_succ_of_le Hga.out)))) (.inr (Nat.zero_le _))
  have fG5 := heap_alloc_new X4 (.cells #[.int .i64 0, .int .i64 0] 33)
  obtain ⟨a0, a1, a2, a3⟩ := val_facts fA5
  have HF := hid_mk (And.intro fF5 (And.intro f55 fG5))
  have HG := hid_mk (Get_yes (S4.quiet o5).1 (arenaO S4.2) (S4.quiet o5).1.tab (o5.cell (o4.cell Hhc.out (.inr hh)) (.inr (Nat.zero_le _))) 2 0 1 HA.out.2.2.2.2.2.1 HA.out.2.2.2.2.2.2.2.1 (by omega) al4.1 HA.out.2.2.2.2.2.2.2.2.2.2)
  rw [HA.out.2.2.2.2.2.2.2.2.2.1, show (40 : Int) % 8 + 1 = 1 from rfl, show (40 : Int) / 8 = 5 from rfl] at HG
  have HO5 := hid_mk ((HO3.out.then o4 HLo.out).trans o5)
  clear S4 o4 o5 fA5 fF5 f55 fG5
  go_wp2_with fail
  refine HG.out.mono ?_
  rintro e X6 ⟨rfl, o6⟩
  clear a0 a1 a2 a3
  have o7 := ((Out.refl 0 0 X6).alloc (.cells #[.int .i64 1, .int .i64 5] 31)).alloc (.cells #[.int .i64 0, .int .i64 0] 33)
  have o67 := o6.trans o7
  obtain ⟨b0, b1, b2, b3⟩ := flt_facts (o67.heap HF.out.1 (.inr (Nat.zero_le _)))
  obtain ⟨c0, c1, c2, c3⟩ := val_facts (o67.heap HF.out.2.1 (.inr (Nat.zero_le _)))
  obtain ⟨d0, d1, d2, d3⟩ := flt_facts (o67.heap HF.out.2.2 (.inr (Nat.zero_le _)))
  have hE : ∀ W, (binOp .eql 31 (.agg #[.int .i64 1, .int .i64 5]) (.agg #[.int .i64 1, .int .i64 5])).run Tryz.prog W = .ok (.bool true) W := fun W => eqv 1 5 1 5 W
  have HE := hid_mk (HO5.out.trans o67)
  clear o6 o7 o67
  go_wp2
  go_ret
  exact ⟨rfl, HE.out⟩
end Go.Proofs.YtcpignkjlnjjmaaGreatDoor
namespace Go.Proofs.YtcpignkjlnjjmaaGreatDoor
open Go.RowKit
set_option linter.unusedVariables false
set_option linter.unusedSimpArgs false

theorem within_any (x : Int) (n : Nat) (h1 : 1 ≤ n) (h2 : n ≤ 1024) (x1 : -9223372036854775808 ≤ x) (x2 : x ≤ 9223372036854775807) (w : World) :
    Calls Tryz.prog 11 #[.int .i64 x, .int .i64 (n : Int)] w fun e w' => ∃ j : Nat, j < n ∧ e = .returned (.int .i64 (j : Int)) ∧ w' = w := by
  have n0 : ((n : Int) == 0) = false := by simp; omega
  have r1 : -(n : Int) < x.tmod n := by have := Int.lt_tmod_of_pos x (b := (n : Int)) (by omega); omega
  have r2 : x.tmod n < n := Int.tmod_lt_of_pos x (by omega)
  obtain ⟨y, hy⟩ : ∃ y, x.tmod n = y := ⟨_, rfl⟩
  rw [hy] at r1 r2
  have c1 : ¬ y < -9223372036854775808 := by omega
  have n1 : (n : Int) ≤ 1024 := by omega
  have n2 : (1 : Int) ≤ (n : Int) := by omega
  by_cases hn : y < 0
  · go_enter Tryz.func11, Tryz.ntmps11
    go_wp2
    go_ret
    refine ⟨(y + n).toNat, by omega, ?_, rfl⟩
    have : (((y + n).toNat : Nat) : Int) = y + n := by omega
    rw [this]
    rfl
  · have hn' : 0 ≤ y := by omega
    go_enter Tryz.func11, Tryz.ntmps11
    go_wp2
    go_ret
    refine ⟨y.toNat, by omega, ?_, rfl⟩
    have : ((y.toNat : Nat) : Int) = y := by omega
    rw [this]
    rfl
theorem word_any {k n : Int} (h : validB_v k n = true) (w : World) : Calls Tryz.prog 18 #[.agg #[.int .i64 k, .int .i64 n]] w fun e w' => e = .returned (.int .i64 (n * 8 + k - 1)) ∧ Out 0 0 w w' := by
  have v := valid_range_v h
  have w1 : IntKind.i64.wrap (n * 8) = n * 8 := by rw [IntKind.wrap_i64]; omega
  have w2 : IntKind.i64.wrap (n * 8 + k) = n * 8 + k := by rw [IntKind.wrap_i64]; omega
  have w3 : IntKind.i64.wrap (n * 8 + k - 1) = n * 8 + k - 1 := by rw [IntKind.wrap_i64]; omega
  have b1 : -9223372036854775808 ≤ n * 8 := by omega
  have b2 : n * 8 ≤ 9223372036854775807 := by omega
  have b3 : -9223372036854775808 ≤ n * 8 + k := by omega
  have b4 : n * 8 + k ≤ 9223372036854775807 := by omega
  have b5 : -9223372036854775808 ≤ n * 8 + k - 1 := by omega
  have b6 : n * 8 + k - 1 ≤ 9223372036854775807 := by omega
  clear v h
  go_enter Tryz.func18, Tryz.ntmps18
  go_wp2
  go_ret
  exact ⟨rfl, (Out.refl 0 0 w).alloc _⟩
end Go.Proofs.YtcpignkjlnjjmaaGreatDoor
namespace Go.Proofs.YtcpignkjlnjjmaaGreatDoor
open Go.RowKit
set_option linter.unusedVariables false
set_option linter.unusedSimpArgs false

def Rooms (n : Nat) (r : Raw) : Prop := ∀ a b, r.P a = true → r.M (a : Int) = some b → 1 ≤ b.2.1 ∧ b.2.1 ≤ 1024 ∧ a + roomN b.2.1 ≤ 64 * n ∧ ∀ a', a < a' → r.P a' = true → a + roomN b.2.1 ≤ a'
theorem of_lt (z : Int) (hp : ¬ 0 < pagesV z) (h : 0 ≤ ofV z) : ∃ c : Nat, ofV z = (c : Int) ∧ c < 8 := by
  have hz : z ≤ 32 ∨ 1024 < z := by
    by_cases hh : 32 < z ∧ z ≤ 1024
    · unfold pagesV at hp; rw [if_pos hh] at hp; omega
    · omega
  have : ofV z ≤ 7 := by
    unfold ofV
    repeat' split
    all_goals omega
  exact ⟨(ofV z).toNat, by omega, by omega⟩
theorem obM_of {n : Nat} {st : Sp} {a : Nat} {b : Blk} (h : (rawOf n st).M (a : Int) = some b) : b = st.O a ∧ hasB (st.O a) = true := by
  have h' : obM st (a : Int) = some b := h
  unfold obM at h'
  rw [show ((a : Int)).toNat = a from by omega] at h'
  by_cases e : (0 : Int) ≤ (a : Int) ∧ hasB (st.O a) = true
  · rw [if_pos e] at h'; cases h'; exact ⟨rfl, e.2⟩
  · rw [if_neg e] at h'; cases h'
theorem mult_gap {a b x : Nat} (hx : 0 < x) (ha : a % x = 0) (hb : b % x = 0) (h : a < b) : a + x ≤ b := by
  obtain ⟨p, rfl⟩ := Nat.dvd_of_mod_eq_zero ha
  obtain ⟨q, rfl⟩ := Nat.dvd_of_mod_eq_zero hb
  have : p < q := Nat.lt_of_mul_lt_mul_left h
  calc x * p + x = x * (p + 1) := by rw [Nat.mul_succ]
    _ ≤ x * q := Nat.mul_le_mul_left _ this
theorem rooms_of {n : Nat} {st : Sp} (hI : Inv n st) : Rooms n (rawOf n st) := by
  intro a b ha hb
  obtain ⟨rfl, hh⟩ := obM_of hb
  obtain ⟨h1, h2, h3⟩ := hI.objs a hh
  obtain ⟨_, _, h4, h5⟩ := fits_size h2
  obtain ⟨k, z, x, t, hO⟩ : ∃ k z x t, st.O a = (k, z, x, t) := ⟨_, _, _, _, rfl⟩
  rw [hO] at h2 h3 h4 h5 ⊢
  dsimp only at h2 h3 h4 h5 ⊢
  refine ⟨h4, h5, ?_⟩
  have hother : ∀ a', (rawOf n st).P a' = true → ObOk n st.S a' (st.O a') := fun a' h' => by
    have : ob n st a' = true := h'
    unfold ob at this
    rw [Bool.and_eq_true] at this
    exact hI.objs a' this.2
  rcases h3 with ⟨s1, s2, s3⟩ | ⟨s1, s2, s3⟩
  · obtain ⟨c, hc, hc8⟩ := of_lt z (by unfold pagesV; rw [if_neg (by omega)]; omega) (by unfold ofV; repeat' split; all_goals omega)
    obtain ⟨w', y', e1, e2, e3, e4⟩ := class_nums hc8
    have hw : roomN z = w' := by unfold roomN; rw [if_neg (by omega), hc, e2]
    rw [hw]
    rw [hc] at s2 s3
    unfold startB at s3
    rw [Bool.and_eq_true, e2] at s3
    have s4 : a % 64 % w' = 0 := by simpa using s3.1
    have s5 : a % 64 + w' ≤ 64 := by simpa using s3.2
    refine ⟨by omega, fun a' h6 h7 => ?_⟩
    by_cases hpg : a' / 64 = a / 64
    · obtain ⟨o1, o2, o3⟩ := hother a' h7
      rcases o3 with ⟨o4, o5, o6⟩ | ⟨o4, o5, o6⟩
      · rw [hpg, s2] at o5
        have oc : ofV (st.O a').2.1 = (c : Int) := by simp at o5; omega
        rw [oc] at o6
        unfold startB at o6
        rw [Bool.and_eq_true, e2] at o6
        have o7 : a' % 64 % w' = 0 := by simpa using o6.1
        have := mult_gap (a := a % 64) (b := a' % 64) (x := w') (by omega) s4 o7 (by omega)
        omega
      · rw [hpg, s2] at o6; simp at o6
    · omega
  · have hw : roomN z = ((z + 63) / 64).toNat * 64 := by unfold roomN; rw [if_pos s1]
    obtain ⟨m, hm⟩ : ∃ m : Nat, (z + 63) / 64 = (m : Int) := ⟨((z + 63) / 64).toNat, by omega⟩
    rw [hm] at s3 hw
    rw [hw, show ((m : Int)).toNat = m from by omega]
    rcases hI.good (a / 64) (by omega) with e | ⟨c, _, _, e⟩ | ⟨q, q1, q2, q3, e, q4⟩ | ⟨e, _⟩
    · rw [s3] at e; simp at e
    · rw [s3] at e; simp at e
    · rw [s3] at e
      have : m = q := by simp at e; omega
      subst this
      refine ⟨by omega, fun a' h6 h7 => ?_⟩
      by_cases hpg : a / 64 < a' / 64 ∧ a' / 64 < a / 64 + m
      · have e3 := q4 (a' / 64) hpg.1 hpg.2
        obtain ⟨o1, o2, o3⟩ := hother a' h7
        rcases o3 with ⟨o4, o5, o6⟩ | ⟨o4, o5, o6⟩
        · rw [e3] at o5; simp at o5
        · rw [e3] at o6; simp at o6
      · by_cases hsame : a' / 64 = a / 64
        · obtain ⟨o1, o2, o3⟩ := hother a' h7
          rcases o3 with ⟨o4, o5, o6⟩ | ⟨o4, o5, o6⟩
          · rw [hsame, s3] at o5; simp at o5
          · omega
        · omega
    · rw [s3] at e; simp at e
theorem nxr_congr {P Q : Nat → Bool} {n k : Nat} (h : ∀ j, k ≤ j → j < n → P j = Q j) : nxr P n k = nxr Q n k := by
  unfold nxr
  rw [nx_congr h]
/-- every link and every header is right -/
def Rt (n : Nat) (st : Sp) : Prop := (∀ c a, fr n st c a = true → st.W a = linkV (nf n st c (a + 1))) ∧ ∀ a, hasB (st.O a) = true → st.W a = makeV a (st.O a).1 (st.O a).2.1
theorem room_small {z : Int} (h : z ≤ 32) : roomN z = wN (ofV z) := by unfold roomN; rw [if_neg (by omega)]
theorem room_great {z : Int} (h : 32 < z) : roomN z = ((z + 63) / 64).toNat * 64 := by unfold roomN; rw [if_pos h]
/-- a free block lies in no room -/
theorem free_out {n : Nat} {st : Sp} (hi : Inv n st) {c : Int} {i a : Nat} (hf : fr n st c i = true) (ha : hasB (st.O a) = true) : i < a ∨ a + roomN (st.O a).2.1 ≤ i := by
  obtain ⟨f1, f2, f3, f4⟩ := fr_iff.1 hf
  obtain ⟨h1, h2, h3⟩ := hi.objs a ha
  have hz := fits_size h2
  by_cases hlt : i < a
  · exact .inl hlt
  right
  rcases h3 with ⟨s1, s2, s3⟩ | ⟨s1, s2, s3⟩
  · rw [room_small s1]
    have hc := of_small hz.2.2.1 s1
    have hw := wN_pos hc.1 hc.2.1
    unfold startB at s3
    rw [Bool.and_eq_true] at s3
    have s4 : a % 64 % wN (ofV (st.O a).2.1) = 0 := by simpa using s3.1
    have s5 : a % 64 + wN (ofV (st.O a).2.1) ≤ 64 := by simpa using s3.2
    by_cases hge : a + wN (ofV (st.O a).2.1) ≤ i
    · exact hge
    exfalso
    have hp : i / 64 = a / 64 := by omega
    rw [hp, s2] at f2
    have hcc : c = ofV (st.O a).2.1 := by simp at f2; exact f2.symm
    rw [hcc] at f3
    unfold startB at f3
    rw [Bool.and_eq_true] at f3
    have s6 : i % 64 % wN (ofV (st.O a).2.1) = 0 := by simpa using f3.1
    by_cases he : i = a
    · rw [he, ha] at f4; cases f4
    · have := mult_gap (by omega) s4 s6 (by omega)
      omega
  · rw [room_great s1]
    obtain ⟨k1, k2, k3⟩ := run_k s1 hz.2.2.2
    by_cases hge : a + (((st.O a).2.1 + 63) / 64).toNat * 64 ≤ i
    · exact hge
    exfalso
    have hp := hi.good (a / 64) (by omega)
    unfold PgOk at hp
    rw [s3] at hp
    rcases hp with e | ⟨c', _, _, e⟩ | ⟨k, _, _, e3, e4, e5⟩ | ⟨e, _⟩
    · simp at e
    · simp at e
    · have e4' : (((st.O a).2.1 + 63) / 64) = (k : Int) := by simp at e4; exact e4
      by_cases he : i / 64 = a / 64
      · rw [he, s3] at f2; simp at f2
      · have := e5 (i / 64) (by omega) (by omega)
        rw [this] at f2; simp at f2
    · simp at e
theorem obj_out {n : Nat} {st : Sp} (hi : Inv n st) {a b : Nat} (ha : hasB (st.O a) = true) (hb : hasB (st.O b) = true) (hne : b ≠ a) : b < a ∨ a + roomN (st.O a).2.1 ≤ b := by
  have hP : ∀ x, hasB (st.O x) = true → (rawOf n st).P x = true := fun x hx => by show ob n st x = true; rw [ob_has hi]; exact hx
  have hM : (rawOf n st).M (a : Int) = some (st.O a) := by
    show obM st (a : Int) = _
    unfold obM
    rw [show ((a : Int)).toNat = a from by omega, if_pos ⟨by omega, ha⟩]
  by_cases h : b < a
  · exact .inl h
  · exact .inr ((rooms_of hi a _ (hP a ha) hM).2.2.2 b (by omega) (hP b hb))
section
variable {n a : Nat} {st : Sp} {fresh : Bool} {kd z t : Int}
theorem putO_self : putO st.O a (kd, z, serOf st kd, t) a = (kd, z, serOf st kd, t) := by unfold putO; rw [if_pos rfl]
theorem putO_ne {i : Nat} (h : i ≠ a) : putO st.O a (kd, z, serOf st kd, t) i = st.O i := by unfold putO; rw [if_neg h]
/-- what is behind a taking: by what the words were ahead of the room's clearing -/
theorem rt_of {W1 : Nat → Int} (hi' : Inv n (takeF n st a fresh kd z t)) (hW : (takeF n st a fresh kd z t).W = updW (zeroW W1 a (roomN z)) a (makeV a kd z)) (hf : fitsB kd z = true)
    (hl : ∀ c i, fr n (takeF n st a fresh kd z t) c i = true → W1 i = linkV (nf n (takeF n st a fresh kd z t) c (i + 1)))
    (hh : ∀ b, b ≠ a → hasB (st.O b) = true → W1 b = makeV b (st.O b).1 (st.O b).2.1) : Rt n (takeF n st a fresh kd z t) := by
  have hk := fits_size hf
  have hO : (takeF n st a fresh kd z t).O = putO st.O a (kd, z, serOf st kd, t) := rfl
  have hba : hasB ((takeF n st a fresh kd z t).O a) = true := by rw [hO, putO_self]; unfold hasB; simp; omega
  have hra : ((takeF n st a fresh kd z t).O a).2.1 = z := by rw [hO, putO_self]
  have hw : 1 ≤ roomN z := by
    by_cases h : z ≤ 32
    · rw [room_small h]
      have hc := of_small hk.2.2.1 h
      have := wN_pos hc.1 hc.2.1; omega
    · rw [room_great (by omega)]
      have := run_k (s := z) (by omega) hk.2.2.2; omega
  have out : ∀ i, (i < a ∨ a + roomN z ≤ i) → (takeF n st a fresh kd z t).W i = W1 i := by
    intro i h
    rw [hW]
    unfold updW zeroW
    rw [if_neg (by omega), if_neg (by omega)]
  refine ⟨fun c i h => ?_, fun b h => ?_⟩
  · have := free_out hi' h hba
    rw [hra] at this
    rw [out i this]
    exact hl c i h
  · by_cases e : b = a
    · subst e
      rw [hO, putO_self, hW]
      unfold updW
      rw [if_pos rfl]
    · have := obj_out hi' hba h e
      rw [hra] at this
      rw [out b this]
      rw [hO, putO_ne e] at h ⊢
      exact hh b e h
theorem rt_run {p : Nat} (hi : Inv n st) (hR : Rt n st) (hf : fitsB kd z = true) (h32 : 32 < z) (hr : rowF st.S n ((z + 63) / 64).toNat = some p) : Rt n (takeF n st (64 * p) false kd z t) := by
  obtain ⟨t1, t2, t3, t4⟩ := take_run (t := t) hi hf h32 hr
  refine rt_of (W1 := st.W) t1 rfl hf (fun c i h => ?_) (fun b _ h => hR.2 b h)
  unfold nf
  rw [t2] at h ⊢
  exact hR.1 c i h
theorem rt_block (hi : Inv n st) (hR : Rt n st) (hf : fitsB kd z = true) (h32 : z ≤ 32) (ha : fr n st (ofV z) a = true) (hmin : ∀ j, j < a → fr n st (ofV z) j = false) : Rt n (takeF n st a false kd z t) := by
  obtain ⟨t1, t2, t3⟩ := take_block (t := t) hi hf h32 ha
  refine rt_of (W1 := st.W) t1 rfl hf (fun c i h => ?_) (fun b _ h => hR.2 b h)
  unfold nf
  rw [t2] at h ⊢
  have hia : i ≠ a := by rintro rfl; unfold upd at h; rw [if_pos rfl] at h; cases h
  have hfi : fr n st c i = true := by unfold upd at h; rw [if_neg hia] at h; exact h
  rw [hR.1 c i hfi]
  unfold nf
  congr 1
  refine nxr_congr fun j j1 j2 => ?_
  unfold upd
  by_cases e : j = a
  · rw [if_pos e, e]
    by_cases ec : c = ofV z
    · exfalso
      subst ec
      have := hmin i (by omega)
      rw [hfi] at this; cases this
    · exact t3 c ec
  · rw [if_neg e]
theorem rt_fresh {p : Nat} (hi : Inv n st) (hR : Rt n st) (hf : fitsB kd z = true) (h32 : z ≤ 32) (hr : rowF st.S n 1 = some p) : Rt n (takeF n st (64 * p) true kd z t) := by
  obtain ⟨t1, t2, t3, t4, t5⟩ := take_fresh (t := t) hi hf h32 hr
  obtain ⟨st2, hst2⟩ : ∃ q : Sp, q = ⟨zeroW st.W (64 * p) 64, takeS st (64 * p) true z, putO st.O (64 * p) (kd, z, serOf st kd, t), 0⟩ := ⟨_, rfl⟩
  have hfr : ∀ c, fr n st2 c = fr n (takeF n st (64 * p) true kd z t) c := fun c => by rw [hst2]; rfl
  refine rt_of (W1 := linkW n st2 (ofV z)) t1 (by rw [hst2]; rfl) hf (fun c i h => ?_) (fun b hb h => ?_)
  · unfold linkW nf
    rw [hfr]
    by_cases ec : c = ofV z
    · rw [← ec, if_pos h]
    · have hz := t2 (ofV z) i
      have hcc := t2 c i
      rw [h] at hcc
      by_cases ei : i / 64 = p
      · rw [if_pos ei, show decide (c = ofV z) = false from by simp [ec]] at hcc
        cases hcc
      · rw [if_neg ei] at hcc hz
        have hno : fr n (takeF n st (64 * p) true kd z t) (ofV z) i = false := by
          rw [hz]
          cases e : fr n st (ofV z) i with
          | false => rfl
          | true =>
            have a1 := (fr_iff.1 e).2.1
            have a2 := (fr_iff.1 hcc.symm).2.1
            rw [a1] at a2
            simp at a2
            exact absurd a2.symm ec
        rw [hno, if_neg (by simp)]
        have hWi : st2.W i = st.W i := by rw [hst2]; show zeroW st.W (64 * p) 64 i = _; unfold zeroW; rw [if_neg (by omega)]
        rw [hWi, hR.1 c i hcc.symm]
        unfold nf
        congr 1
        refine nxr_congr fun j j1 j2 => ?_
        rw [t2 c j]
        by_cases ej : j / 64 = p
        · rw [if_pos ej, show decide (c = ofV z) = false from by simp [ec]]
          cases e : fr n st c j with
          | false => rfl
          | true =>
            have a1 := (fr_iff.1 e).2.1
            rw [ej, t5] at a1
            simp at a1
        · rw [if_neg ej]
  · have hbp : b / 64 ≠ p := fun e => by rw [t3 b e] at h; cases h
    have hno : fr n st2 (ofV z) b = false := by
      rw [hfr, t2, if_neg hbp]
      cases e : fr n st (ofV z) b with
      | false => rfl
      | true => have := (fr_iff.1 e).2.2.2; rw [h] at this; cases this
    unfold linkW
    rw [hno, if_neg (by simp)]
    have hWb : st2.W b = st.W b := by rw [hst2]; show zeroW st.W (64 * p) 64 b = _; unfold zeroW; rw [if_neg (by omega)]
    rw [hWb]
    exact hR.2 b h
/-- Alloc of a right space: no place, no such object, or it is taken; right it stays -/
theorem al_right (hi : Inv n st) (hR : Rt n st) (hf : fitsB kd z = true) :
    (placeF n st z = none ∧ alF n st kd z t = (0, 20, 0, st)) ∨
    ∃ a fresh, placeF n st z = some (a, fresh) ∧ alF n st kd z t = ((a : Int), 0, 0, takeF n st a fresh kd z t) ∧ Inv n (takeF n st a fresh kd z t) ∧ Rt n (takeF n st a fresh kd z t) ∧ hasB (st.O a) = false ∧ a + roomN z ≤ 64 * n ∧ a < 64 * n := by
  have hz := fits_size hf
  unfold alF
  rw [if_pos hf]
  by_cases h32 : 32 < z
  · have hpl : placeF n st z = (rowF st.S n ((z + 63) / 64).toNat).map fun p => (64 * p, false) := by unfold placeF; rw [if_pos h32]
    cases hr : rowF st.S n ((z + 63) / 64).toNat with
    | none => left; rw [hpl, hr]; exact ⟨rfl, rfl⟩
    | some p =>
      right
      obtain ⟨t1, t2, t3, t4⟩ := take_run (t := t) hi hf h32 hr
      have := run_k h32 hz.2.2.2
      refine ⟨64 * p, false, by rw [hpl, hr]; rfl, ?_, t1, rt_run hi hR hf h32 hr, t3, by rw [room_great h32]; omega, by omega⟩
      rw [hpl, hr]
      simp only [Option.map_some]
      rw [if_neg (by omega)]
  · have hpl : placeF n st z = if 0 ≤ nf n st (ofV z) 0 then some ((nf n st (ofV z) 0).toNat, false) else (rowF st.S n 1).map fun p => (64 * p, true) := by unfold placeF; rw [if_neg h32]
    have hc := of_small hz.2.2.1 (by omega)
    have hw := wN_pos hc.1 hc.2.1
    rcases nxr_cases (fr n st (ofV z)) (64 * n) 0 with ⟨e1, e2⟩ | ⟨i, e1, e2, e3, e4, e5⟩
    · have e1' : nf n st (ofV z) 0 = -1 := e1
      rw [e1', if_neg (by omega)] at hpl
      cases hr : rowF st.S n 1 with
      | none => left; rw [hpl, hr]; exact ⟨rfl, rfl⟩
      | some p =>
        right
        obtain ⟨t1, t2, t3, t4, t5⟩ := take_fresh (t := t) hi hf (by omega) hr
        refine ⟨64 * p, true, by rw [hpl, hr]; rfl, ?_, t1, rt_fresh hi hR hf (by omega) hr, t3 _ (by omega), by rw [room_small (by omega)]; omega, by omega⟩
        rw [hpl, hr]
        simp only [Option.map_some]
        rw [if_neg (by simp)]
    · have e1' : nf n st (ofV z) 0 = (i : Int) := e1
      rw [e1', if_pos (by omega)] at hpl
      simp only [Int.toNat_natCast] at hpl
      obtain ⟨t1, t2, t3⟩ := take_block (t := t) hi hf (by omega) e4
      obtain ⟨f1, f2, f3, f4⟩ := fr_iff.1 e4
      unfold startB at f3
      rw [Bool.and_eq_true] at f3
      have f5 : i % 64 + wN (ofV z) ≤ 64 := by simpa using f3.2
      right
      refine ⟨i, false, hpl, ?_, t1, rt_block hi hR hf (by omega) e4 (fun j hj => e5 j (Nat.zero_le _) hj), f4, by rw [room_small (by omega)]; omega, e2⟩
      rw [hpl]
      simp only []
      rw [if_neg]
      rintro ⟨_, _, h⟩
      exact h (hR.1 _ i e4)
end
end Go.Proofs.YtcpignkjlnjjmaaGreatDoor
