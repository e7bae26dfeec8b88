import Derived.Test.YtcpignkjlnjjmaaGreatDoorNa29
import Derived.Test.YtcpignkjlnjjmaaGreatDoorNa00
namespace Go.Proofs.YtcpignkjlnjjmaaGreatDoor
open Go.RowKit
set_option linter.unusedVariables false
set_option linter.unusedSimpArgs false

theorem SlI.mono {w : World} {b b' : Nat} {p : Option Addr} {L : List Int} (h : SlI w b p L) (hb : b ≤ b') : SlI w b' p L := by
  refine ⟨h.1, ?_⟩
  rcases h.2 with h | ⟨g, off, h1, h2, h3⟩
  · exact .inl h
  · exact .inr ⟨g, off, h1, by omega, h3⟩
/-- what Get tells of an object's word: a value's kind and number, a fault's error and place -/
def gtQ (n : Nat) (st : Sp) (q : Nat) (i : Int) : Int × Int × Int × Int :=
  if opE (rawOf n st) 2 q = 0 then
    if fieldB (roleV (st.O q).1 (st.O q).2.1 i) = true then
      if rgB (rawOf n st) q (st.O q) (roleV (st.O q).1 (st.O q).2.1 i) (peekV n st.W (q + i)) = true then (peekV n st.W (q + i) % 8 + 1, peekV n st.W (q + i) / 8, 0, 0) else (0, 0, 21, q + i)
    else (0, 0, 32, 0)
  else (0, 0, opE (rawOf n st) 2 q, opA (rawOf n st) 2 q)
theorem Get_gt {w : World} {lo hi hb n cap q : Nat} {s : Nat → Nat} {st : Sp} (h : SpAt w lo hi s n cap st) (hH : w.cell? ⟨hb, 0, none⟩ = some (.pointer (some ⟨s 14, 0, none⟩))) (ha : hasB (st.O q) = true) (i : Int) {y1 y2 y3 y4 : Int} (hy : gtQ n st q i = (y1, y2, y3, y4)) :
    Calls Tryz.prog 14 #[.pointer (some ⟨hb, 0, none⟩), .agg #[.int .i64 2, .int .i64 (q : Int)], .int .i64 i] w fun e w' => e = .returned (.tuple #[.agg #[.int .i64 y1, .int .i64 y2], .agg #[.int .i64 y3, .int .i64 y4]]) ∧ Out 0 0 w w' := by
  obtain ⟨hr, hi'⟩ := h
  have hM := raw_at (n := n) ha
  unfold gtQ at hy
  generalize st.O q = b at *
  obtain ⟨t1, t2, t3, t4⟩ := b
  by_cases h0 : opE (rawOf n st) 2 q = 0
  · rw [if_pos h0] at hy
    cases hf : fieldB (roleV t1 t2 i)
    · rw [if_neg (by rw [hf]; simp)] at hy
      cases hy
      exact Get_field hr (arenaO hi') hr.tab hH 2 q i hM h0 hf
    · rw [if_pos hf] at hy
      cases hg : rgB (rawOf n st) q (t1, t2, t3, t4) (roleV t1 t2 i) (peekV n st.W (q + i))
      · rw [if_neg (by rw [hg]; simp)] at hy
        cases hy
        exact Get_wrong hr (arenaO hi') hr.tab hH 2 q i hM h0 hr.n2 hf hg
      · rw [if_pos hg] at hy
        cases hy
        exact Get_yes hr (arenaO hi') hr.tab hH 2 q i hM h0 hr.n2 hf hg
  · rw [if_neg h0] at hy
    cases hy
    exact Get_open hr (arenaO hi') hr.tab hH 2 q i h0
/-- an object's word is turned -/
def tnS (n : Nat) (st : Sp) (q i : Nat) (v : Int) : Sp := wSpO st (pokeW n st.W ((q : Int) + (i : Int)) v)
theorem tn_head {n q : Nat} {st : Sp} {v : Int} (hR : Rt n st) (hi : Inv n st) (ha : hasB (st.O q) = true) (hv : v ≠ st.W q) : opE (rawOf n (tnS n st q 0 v)) 2 q = 21 ∧ opA (rawOf n (tnS n st q 0 v)) 2 q = q := by
  have hq := (hi.objs q ha).1
  have hM : (rawOf n (tnS n st q 0 v)).M (q : Int) = some (st.O q) := raw_at (n := n) (st := tnS n st q 0 v) ha
  have hW : (rawOf n (tnS n st q 0 v)).W ((q : Int)).toNat = v := by
    show pokeW n st.W ((q : Int) + ((0 : Nat) : Int)) v ((q : Int)).toNat = v
    rw [show ((q : Int) + ((0 : Nat) : Int)) = (q : Int) from by omega, show ((q : Int)).toNat = q from by omega]
    exact poke_at hq
  have hne : ¬ v = makeV q (st.O q).1 (st.O q).2.1 := by rw [← hR.2 q ha]; exact hv
  unfold opE opA chkE chkA
  rw [if_pos ⟨rfl, by rw [hM]; simp⟩, if_pos ⟨rfl, by rw [hM]; simp⟩, hM]
  simp only [hW]
  rw [if_neg hne, if_neg hne]
  exact ⟨rfl, rfl⟩
theorem tn_get {n q : Nat} {st : Sp} {v : Int} (hR : Rt n st) (hi : Inv n st) (ha : hasB (st.O q) = true) (hv : v ≠ st.W q) (i : Int) : gtQ n (tnS n st q 0 v) q i = (0, 0, 21, (q : Int)) := by
  obtain ⟨h1, h2⟩ := tn_head hR hi ha hv
  unfold gtQ
  rw [h1, if_neg (by decide), h2]
theorem tn_word {n q i : Nat} {st : Sp} {v : Int} {x1 x2 x3 x4 y1 y2 y3 y4 : Int} (hR : Rt n st) (hi : Inv n st) (ha : hasB (st.O q) = true) (h1 : 1 ≤ i) (h2 : (i : Int) < (st.O q).2.1) (hv : v ≠ st.W (q + i)) (hx : gtQ n st q i = (x1, x2, x3, x4)) (hy : gtQ n (tnS n st q i v) q i = (y1, y2, y3, y4)) :
    (x3 = 32 ∧ y3 = 32) ∨ (x3 ≠ 32 ∧ rightB (rawOf n (tnS n st q i v)) q i v = true ∧ y3 = 0 ∧ validB_v y1 y2 = true ∧ y2 * 8 + y1 - 1 = v ∧ ¬ (y1 = x1 ∧ y2 = x2)) ∨ (x3 ≠ 32 ∧ rightB (rawOf n (tnS n st q i v)) q i v = false ∧ y3 = 21 ∧ y4 = q + i) := by
  have hM := raw_at (n := n) ha
  have hM' : (rawOf n (tnS n st q i v)).M (q : Int) = some (st.O q) := hM
  have o1 := op_right hR ha
  have hq := arenaO hi q _ hM
  have hin : q + i < 64 * n := by omega
  have hW : ∀ W : Nat → Int, peekV n W ((q : Int) + (i : Int)) = W (q + i) := fun W => by
    unfold peekV inB
    rw [if_pos (by simp; omega), show ((q : Int) + (i : Int)).toNat = q + i from by omega]
  have hW' : peekV n (tnS n st q i v).W ((q : Int) + (i : Int)) = v := by
    rw [hW]
    show pokeW n st.W ((q : Int) + (i : Int)) v (q + i) = v
    rw [show (q : Int) + (i : Int) = ((q + i : Nat) : Int) from by omega]
    exact poke_at hin
  have o2 : opE (rawOf n (tnS n st q i v)) 2 q = 0 := op_right (rt_room hi hR ha fun j hj => poke_far (by omega)) ha
  unfold gtQ at hx hy
  rw [if_pos o1, hW] at hx
  rw [if_pos o2, hW'] at hy
  have hO : (tnS n st q i v).O q = st.O q := rfl
  rw [hO] at hy
  have hg : ∀ x, rgB (rawOf n (tnS n st q i v)) q (st.O q) (roleV (st.O q).1 (st.O q).2.1 i) x = rgB (rawOf n st) q (st.O q) (roleV (st.O q).1 (st.O q).2.1 i) x := fun x => rfl
  have hrb : rightB (rawOf n (tnS n st q i v)) q i v = rgB (rawOf n st) q (st.O q) (roleV (st.O q).1 (st.O q).2.1 i) v := by
    unfold rightB
    rw [hM']
    rfl
  rw [hrb]
  rw [hg] at hy
  generalize hrole : roleV (st.O q).1 (st.O q).2.1 (i : Int) = role at *
  cases hf : fieldB role
  · rw [if_neg (by rw [hf]; simp)] at hx hy
    cases hx; cases hy
    exact .inl ⟨rfl, rfl⟩
  · right
    rw [if_pos hf] at hx hy
    have hx3 : x3 ≠ 32 := by
      cases hr : rgB (rawOf n st) q (st.O q) role (st.W (q + i))
      · rw [if_neg (by rw [hr]; simp)] at hx; cases hx; decide
      · rw [if_pos hr] at hx; cases hx; decide
    cases hr : rgB (rawOf n st) q (st.O q) role v
    · right
      rw [if_neg (by rw [hr]; simp)] at hy
      cases hy
      exact ⟨hx3, rfl, rfl, rfl⟩
    · left
      rw [if_pos hr] at hy
      cases hy
      refine ⟨hx3, rfl, rfl, rg_valid hf hr, by omega, ?_⟩
      rintro ⟨c1, c2⟩
      cases hr2 : rgB (rawOf n st) q (st.O q) role (st.W (q + i))
      · rw [if_neg (by rw [hr2]; simp)] at hx; cases hx; omega
      · rw [if_pos hr2] at hx; cases hx; omega
end Go.Proofs.YtcpignkjlnjjmaaGreatDoor
namespace Go.Proofs.YtcpignkjlnjjmaaGreatDoor
open Go.RowKit
set_option linter.unusedVariables false
set_option linter.unusedSimpArgs false

theorem nev {a b c d : Int} (h : ¬ (a = c ∧ b = d)) (W : World) : (binOp .neq 31 (.agg #[.int .i64 a, .int .i64 b]) (.agg #[.int .i64 c, .int .i64 d])).run Tryz.prog W = .ok (.bool true) W := by
  have h' : (a == c && b == d) = false := by
    cases h1 : (a == c)
    · rfl
    · cases h2 : (b == d)
      · rfl
      · exact absurd ⟨by simpa using h1, by simpa using h2⟩ h
  revert h'
  cases h1 : (a == c) <;> cases h2 : (b == d) <;> intro h' <;> first | exact absurd h' (by decide) | go_simp
set_option maxRecDepth 100000 in
set_option maxHeartbeats 8000000 in
theorem named_any {w : World} (hT : Tab w) {p : Option Addr} {L : List Int} {cap0 : Nat} (hL : SlI w w.heap.size p L) (of_ a v : Int) (f1 : -9223372036854775808 ≤ of_) (f2 : of_ ≤ 9223372036854775807) (a1 : -9223372036854775808 ≤ a) (a2 : a ≤ 9223372036854775807) :
    Calls Tryz.prog 4 #[.slice p L.length cap0, .int .i64 of_, .int .i64 a, .int .i64 v] w fun e w' => e = .returned (.bool true) ∧ Out 0 0 w w' := by
  have HT := hid_mk hT
  have HL := hid_mk hL
  have HF := hid_mk (And.intro f1 f2)
  have HA := hid_mk (And.intro a1 a2)
  clear hT hL f1 f2 a1 a2
  go_enter Tryz.func4, Tryz.ntmps4
  go_wp2_with fail
  refine (alive_any HT.out).mono ?_
  rintro e X1 ⟨rfl, o1⟩
  have HO1 := hid_mk o1
  have HMd := hid_mk (made_any (cap0 := cap0) (HT.out.quiet o1) ((HL.out.kept o1 (.inr rfl)).mono o1.size))
  clear o1 HT HL
  go_wp2_with fail
  refine HMd.out.mono ?_
  rintro e X2 ⟨hi, s, cap, hb, st, l, lv, rfl, hM, hh, h12⟩
  obtain ⟨lo, hlo⟩ : ∃ lo, X1.heap.size = lo := ⟨_, rfl⟩
  have HLO : Hid (w.heap.size ≤ lo) := by rw [← hlo]; exact HO1.out.size
  rw [hlo] at hM
  clear hlo
  clear HMd
  obtain ⟨po, pc, rfl, hat⟩ := hM.2.2.2.1.at
  by_cases h0 : l.length = 0
  · have h0' : (l.length : Int) = 0 := by omega
    have HE := hid_mk (HO1.out.trans hM.2.2.2.2.2)
    clear hM hh h12 hat h0
    go_wp2
    go_ret
    exact ⟨rfl, HE.out⟩
  have HM := hid_mk hM
  have Hh := hid_mk hh
  have HAt := hid_mk hat
  have Hl := hid_mk (And.intro h0 h12)
  have l1 : (1 : Int) ≤ (l.length : Int) := by omega
  have l2 : (l.length : Int) ≠ 0 := by omega
  have HW := hid_mk (fun w => within_any of_ l.length (by omega) (by omega) HF.out.1 HF.out.2 w)
  clear hM hh hat h0 h12 HF
  go_wp2_with fail
  refine (HW.out _).mono ?_
  rintro e X3 ⟨j, hj, rfl, rfl⟩
  clear HW
  obtain ⟨q, hq⟩ : ∃ q, l[j]? = some q := ⟨_, List.getElem?_eq_getElem hj⟩
  obtain ⟨g, rfl, hg1, hg2, c1, c2⟩ := HAt.out j q hq
  have hqO := HM.out.2.2.2.2.1 q (List.mem_of_getElem? hq)
  have HqO := hid_mk hqO
  have j1 : (j : Int) < (l.length : Int) := by omega
  have j0 : (0 : Int) ≤ (j : Int) := by omega
  obtain ⟨t1, t2, t3, t4, hO⟩ : ∃ t1 t2 t3 t4, st.O q = (t1, t2, t3, t4) := ⟨_, _, _, _, rfl⟩
  have HtO := hid_mk hO
  have HRw : Hid ((rawOf 4 st).M (q : Int) = some (t1, t2, t3, t4)) := by rw [← hO]; exact raw_at hqO
  have Har := hid_mk (arenaO HM.out.1.2 (q : Int) _ HRw.out)
  have Hop := hid_mk (op_right HM.out.2.1 hqO)
  have fV := hid_mk (heap_alloc_new X3 (.cells #[.int .i64 2, .int .i64 (q : Int)] 31))
  have HM3 := hid_mk (HM.out.quiet ((Out.refl 0 0 X3).alloc (.cells #[.int .i64 2, .int .i64 (q : Int)] 31)))
  have HTop := hid_mk HM.out.1.1.top
  clear hq hj hg1 hg2 HAt hqO hO HM
  go_wp2_with fail
  obtain ⟨gv, hgv⟩ : ∃ g, X3.heap.size = g := ⟨_, rfl⟩
  obtain ⟨V3, hV3⟩ : ∃ V, X3.alloc (.cells #[.int .i64 2, .int .i64 (q : Int)] 31) = V := ⟨_, rfl⟩
  rw [hV3] at HM3 fV
  rw [hgv] at fV
  have HGV : Hid (hi ≤ gv) := by rw [← hgv]; exact HTop.out
  (try rw [hV3])
  (try rw [hgv])
  clear hV3 hgv c1 c2
  refine (Open_yes HM3.out.1.1 (arenaO HM3.out.1.2) HM3.out.2.2.1 2 q HRw.out Hop.out).mono ?_
  rintro e X4 ⟨rfl, o4⟩
  have fB := hid_mk (two_first (w := X4) (o := .cells #[.int .i64 (q : Int), .int .i64 t1, .int .i64 t2, .int .i64 t3, .int .i64 t4] 44) (o2 := .cells #[.int .i64 0, .int .i64 0] 33))
  have fF := hid_mk (two_second (w := X4) (o := .cells #[.int .i64 (q : Int), .int .i64 t1, .int .i64 t2, .int .i64 t3, .int .i64 t4] 44) (o2 := .cells #[.int .i64 0, .int .i64 0] 33))
  have o5 := o4.trans (((Out.refl 0 0 X4).alloc (.cells #[.int .i64 (q : Int), .int .i64 t1, .int .i64 t2, .int .i64 t3, .int .i64 t4] 44)).alloc (.cells #[.int .i64 0, .int .i64 0] 33))
  have HM5 := hid_mk (HM3.out.quiet o5)
  have fV5 := hid_mk (o5.heap fV.out (.inr (Nat.zero_le _)))
  clear o4 o5 HM3 fV
  by_cases h2 : t2 < 2
  · have HE := hid_mk (HO1.out.trans HM5.out.2.2.2.2.2)
    go_wp2
    go_ret
    exact ⟨rfl, HE.out⟩
  have h2' : (2 : Int) ≤ t2 := by omega
  clear h2
  obtain ⟨z, rfl⟩ : ∃ z : Nat, t2 = (z : Int) := ⟨t2.toNat, by omega⟩
  have HWa := hid_mk (fun w => within_any a z (by omega) (by have := Har.out.2.2.2; omega) HA.out.1 HA.out.2 w)
  go_wp2_with fail
  refine (HWa.out _).mono ?_
  rintro e X5 ⟨i, hi5, rfl, rfl⟩
  clear HWa
  have hi5' : (i : Int) < (z : Int) := by omega
  have i0 : (0 : Int) ≤ (i : Int) := by omega
  have hq4 : (q : Int) + (z : Int) ≤ 256 := by have := Har.out.2.1; omega
  have hwr : IntKind.i64.wrap ((q : Int) + (i : Int)) = (q : Int) + (i : Int) := by rw [IntKind.wrap_i64]; omega
  have m1 : -9223372036854775808 ≤ (q : Int) + (i : Int) := by omega
  have m2 : (q : Int) + (i : Int) ≤ 9223372036854775807 := by omega
  have Hib : Hid (inB (64 * 4) ((q : Int) + (i : Int)) = true) := by show inB _ _ = true; unfold inB; rw [Bool.and_eq_true, decide_eq_true_eq, decide_eq_true_eq]; exact ⟨by omega, by omega⟩
  have Hpk : Hid (peekV 4 (rawOf 4 st).W ((q : Int) + (i : Int)) = st.W (q + i)) := by
    show peekV 4 st.W _ = _
    unfold peekV
    rw [if_pos Hib.out, show ((q : Int) + (i : Int)).toNat = q + i from by omega]
  have Hgv : Hid (hi ≤ gv) := HGV.out
  have y6 := HM5.out.2.2.1
  obtain ⟨u0, u1, u2, u3⟩ := val_facts fV5.out
  go_wp2_with fail
  obtain ⟨V5, hV5⟩ : ∃ V, (X4.alloc (.cells #[.int .i64 (q : Int), .int .i64 t1, .int .i64 (z : Int), .int .i64 t3, .int .i64 t4] 44)).alloc (.cells #[.int .i64 0, .int .i64 0] 33) = V := ⟨_, rfl⟩
  rw [hV5] at HM5 fV5 fB fF y6 u0 u1 u2 u3 ⊢
  clear hV5 fB fF
  refine wp_region_held_drew (S := fun w' => w'.cell? ⟨hb, 0, none⟩ = some (.pointer (some ⟨s 14, 0, none⟩)) ∧ w'.cell? ⟨gv, 1, none⟩ = some (.int .i64 (q : Int)) ∧ Out 0 0 V5 w') (by kernel_rfl) ?hS61 (fun hHeld => ?rest61)
  case hS61 => exact ⟨y6, u1, (Out.refl 0 0 _).drew⟩
  refine tk 0 ?_
  refine tk 1 ?_
  refine tk 2 ?_
  refine tk 3 ?_
  refine tk 4 ?_
  refine tk 5 ?_
  refine tk 6 ?_
  refine tk 7 ?_
  refine wpAnyH_ready (rs := [8]) (by kernel_rfl) (by simp) ?_
  refine AllReadyH.cons rfl (fun KK hK => ?_) AllReadyH.nil
  simp only [xa, xb, xc]
  go_simp
  refine (peek_any (HM5.out.1.1.quiet hHeld.2.2) ((q : Int) + (i : Int))).mono ?_
  rintro e w6 ⟨rfl, he⟩
  rw [he]
  clear he w6
  rw [Hib.out, Hpk.out]
  refine hK.out _ _ ?hS70 (fun hHeld2 => ?rest70)
  case hS70 => exact hHeld
  clear hK KK
  (try clear hHeld)
  have hHeld := hHeld2
  clear hHeld2
  (try simp only [Act.put, xa, xb, xc, xd, xe, xf])
  refine tk 9 ?_
  refine tk 10 ?_
  refine tk 11 ?_
  refine tk 12 ?_
  refine tk 13 ?_
  refine wpAnyH_done (by kernel_rfl) ?_ _
  have HM6 := hid_mk (HM5.out.quiet hHeld.2.2)
  have fV6 := hid_mk (hHeld.2.2.heap fV5.out (.inr (Nat.zero_le _)))
  obtain ⟨X6, hX6⟩ : ∃ X, V5.drew = X := ⟨_, rfl⟩
  rw [hX6] at HM6 fV6 ⊢
  clear hX6 hHeld HM5 fV5 y6 u0 u1 u2 u3
  by_cases hv : st.W (q + i) = v
  · have HE := hid_mk (HO1.out.trans HM6.out.2.2.2.2.2)
    subst hv
    go_wp2
    go_ret
    exact ⟨rfl, HE.out⟩
  have Hv : Hid (v ≠ st.W (q + i)) := fun e => hv e.symm
  have hv' : (st.W (q + i) == v) = false := by simpa using hv
  clear hv
  obtain ⟨x1, x2, x3, x4, hx⟩ : ∃ x1 x2 x3 x4, gtQ 4 st q i = (x1, x2, x3, x4) := ⟨_, _, _, _, rfl⟩
  have Hx := hid_mk hx
  have HG1 := hid_mk (Get_gt HM6.out.1 HM6.out.2.2.1 HqO.out i hx)
  obtain ⟨u0, u1, u2, u3⟩ := val_facts fV6.out
  clear hx
  go_wp2_with fail
  refine HG1.out.mono ?_
  rintro e X7 ⟨rfl, o7⟩
  clear HG1 hv' u0 u1 u2 u3
  have fXV := hid_mk (two_first (w := X7) (o := .cells #[.int .i64 x1, .int .i64 x2] 31) (o2 := .cells #[.int .i64 x3, .int .i64 x4] 33))
  have fXF := hid_mk (two_second (w := X7) (o := .cells #[.int .i64 x1, .int .i64 x2] 31) (o2 := .cells #[.int .i64 x3, .int .i64 x4] 33))
  have o8 := o7.trans (((Out.refl 0 0 X7).alloc (.cells #[.int .i64 x1, .int .i64 x2] 31)).alloc (.cells #[.int .i64 x3, .int .i64 x4] 33))
  have HM8 := hid_mk (HM6.out.quiet o8)
  have fV8 := hid_mk (o8.heap fV6.out (.inr (Nat.zero_le _)))
  have Hgx0 : Hid (hi ≤ X7.heap.size) := Nat.le_trans HM6.out.1.1.top o7.size
  clear o7 o8 HM6 fV6
  have y6 := HM8.out.2.2.1
  obtain ⟨u0, u1, u2, u3⟩ := val_facts fV8.out
  go_wp2_with fail
  obtain ⟨gx, hgx⟩ : ∃ g, X7.heap.size = g := ⟨_, rfl⟩
  obtain ⟨V8, hV8⟩ : ∃ V, (X7.alloc (.cells #[.int .i64 x1, .int .i64 x2] 31)).alloc (.cells #[.int .i64 x3, .int .i64 x4] 33) = V := ⟨_, rfl⟩
  rw [hV8] at HM8 fV8 fXV fXF y6 u0 u1 u2 u3 ⊢
  rw [hgx] at fXV fXF Hgx0
  (try rw [hgx])
  clear hV8 hgx
  refine wp_region_held_drew (S := fun w' => w'.cell? ⟨hb, 0, none⟩ = some (.pointer (some ⟨s 14, 0, none⟩)) ∧ w'.cell? ⟨gv, 1, none⟩ = some (.int .i64 (q : Int))) (by kernel_rfl) ?hS76 (fun hHeld => ?rest76)
  case hS76 => exact ⟨y6, u1⟩
  obtain ⟨Z0, hZ⟩ : ∃ Z, V8.drew = Z := ⟨_, rfl⟩
  have O : Out 0 0 V8 Z0 := by rw [← hZ]; exact (Out.refl 0 0 _).drew
  rw [hZ] at hHeld ⊢
  clear hZ
  refine tk 0 ?_
  refine tk 1 ?_
  refine tk 2 ?_
  refine tk 3 ?_
  refine tk 4 ?_
  refine tk 5 ?_
  refine tk 6 ?_
  refine tk 7 ?_
  refine tk 8 ?_
  refine wpAnyH_ready (rs := [9]) (by kernel_rfl) (by simp) ?_
  refine AllReadyH.cons rfl (fun KK hK => ?_) AllReadyH.nil
  simp only [xa, xb, xc]
  go_simp
  refine (spPokeO (HM8.out.1.quiet O) ((q : Int) + (i : Int)) v).mono ?_
  rintro e X9 ⟨rfl, P9, q9⟩
  refine hK.out _ _ ?hS86 (fun hHeld2 => ?rest86)
  case hS86 => exact ⟨q9.cell hHeld.1 (.inr Hh.out), q9.cell hHeld.2 (.inr Hgv.out)⟩
  clear hK KK
  (try clear hHeld)
  have hHeld := hHeld2
  clear hHeld2
  (try simp only [Act.put, xa, xb, xc, xd, xe, xf])
  refine wpAnyH_done (by kernel_rfl) ?_ _
  have HP9 : Hid (SpAt X9 lo hi s 4 cap (tnS 4 st q i v)) := P9
  have hH9 := q9.cell (O.cell HM8.out.2.2.1 (.inr (Nat.zero_le _))) (.inr Hh.out)
  have HH9 := hid_mk hH9
  have fV9 := hid_mk (q9.heap (O.heap fV8.out (.inr (Nat.zero_le _))) (.inr Hgv.out))
  have fXV9 := hid_mk (q9.heap (O.heap fXV.out (.inr (Nat.zero_le _))) (.inr Hgx0.out))
  have fXF9 := hid_mk (q9.heap (O.heap fXF.out (.inr (Nat.zero_le _))) (.inr (Nat.le_succ_of_le Hgx0.out)))
  have HO9 := hid_mk ((HO1.out.trans (HM8.out.2.2.2.2.2.trans O)).then q9 HLO.out)
  have HRt := hid_mk (And.intro HM8.out.2.1 HM8.out.1.2)
  clear hHeld P9 q9 O y6 u0 u1 u2 u3 HM8 fV8 fXV fXF
  obtain ⟨y1, y2, y3, y4, hy⟩ : ∃ y1 y2 y3 y4, gtQ 4 (tnS 4 st q i v) q i = (y1, y2, y3, y4) := ⟨_, _, _, _, rfl⟩
  have Hy := hid_mk hy
  have HG2 := hid_mk (Get_gt HP9.out hH9 HqO.out i hy)
  obtain ⟨u0, u1, u2, u3⟩ := val_facts fV9.out
  clear hy hH9
  go_wp2_with fail
  refine HG2.out.mono ?_
  rintro e X10 ⟨rfl, o10⟩
  clear HG2 u0 u1 u2 u3
  have fYV := hid_mk (two_first (w := X10) (o := .cells #[.int .i64 y1, .int .i64 y2] 31) (o2 := .cells #[.int .i64 y3, .int .i64 y4] 33))
  have fYF := hid_mk (two_second (w := X10) (o := .cells #[.int .i64 y1, .int .i64 y2] 31) (o2 := .cells #[.int .i64 y3, .int .i64 y4] 33))
  have oY := o10.trans (((Out.refl 0 0 X10).alloc (.cells #[.int .i64 y1, .int .i64 y2] 31)).alloc (.cells #[.int .i64 y3, .int .i64 y4] 33))
  have HPY := hid_mk (HP9.out.quiet oY)
  have HHY := hid_mk (oY.cell HH9.out (.inr (Nat.zero_le _)))
  have fVY := hid_mk (oY.heap fV9.out (.inr (Nat.zero_le _)))
  have fXVY := hid_mk (oY.heap fXV9.out (.inr (Nat.zero_le _)))
  have fXFY := hid_mk (oY.heap fXF9.out (.inr (Nat.zero_le _)))
  have HOY := hid_mk (HO9.out.trans oY)
  obtain ⟨gy, hgy⟩ : ∃ g, X10.heap.size = g := ⟨_, rfl⟩
  rw [hgy] at fYV fYF
  clear o10 oY HP9 HH9 fV9 fXV9 fXF9 HO9
  by_cases hi0 : i = 0
  · subst hi0
    obtain ⟨rfl, rfl, rfl, rfl⟩ : y1 = 0 ∧ y2 = 0 ∧ y3 = 21 ∧ y4 = (q : Int) := by
      have h := Hy.out
      rw [tn_get HRt.out.1 HRt.out.2 HqO.out Hv.out _] at h
      simp at h
      exact ⟨h.1.symm, h.2.1.symm, h.2.2.1.symm, h.2.2.2.symm⟩
    have Hopn := hid_mk (tn_head HRt.out.1 HRt.out.2 HqO.out Hv.out)
    have hE : ∀ W, (binOp .eql 33 (.agg #[.int .i64 21, .int .i64 (q : Int)]) (.agg #[.int .i64 21, .int .i64 (q : Int)])).run Tryz.prog W = .ok (.bool true) W := fun W => by rw [eqf]; simp
    obtain ⟨u0, u1, u2, u3⟩ := val_facts fVY.out
    go_wp2_with fail
    clear u0 u1 u2 u3
    obtain ⟨V10, hV10⟩ : ∃ V, (X10.alloc (.cells #[.int .i64 0, .int .i64 0] 31)).alloc (.cells #[.int .i64 21, .int .i64 (q : Int)] 33) = V := ⟨_, rfl⟩
    rw [hV10] at HPY HHY fVY fXVY fXFY HOY fYV fYF
    (try rw [hV10])
    (try rw [hgy])
    clear hV10 hgy
    have HOp := hid_mk (Open_no HPY.out.1 (arenaO HPY.out.2) HHY.out 2 q (by rw [Hopn.out.1]; decide))
    rw [Hopn.out.1, Hopn.out.2] at HOp
    refine HOp.out.mono ?_
    rintro e X11 ⟨rfl, o11⟩
    have p11 := o11.trans (((Out.refl 0 0 X11).alloc (.cells #[.int .i64 0, .int .i64 0, .int .i64 0, .int .i64 0, .int .i64 0] 44)).alloc (.cells #[.int .i64 21, .int .i64 (q : Int)] 33))
    have HP11 := hid_mk (HPY.out.quiet p11)
    have HH11 := hid_mk (p11.cell HHY.out (.inr (Nat.zero_le _)))
    have fV11 := hid_mk (p11.heap fVY.out (.inr (Nat.zero_le _)))
    have fY11 := hid_mk (p11.heap fYF.out (.inr (Nat.zero_le _)))
    have fO11 := hid_mk (two_second (w := X11) (o := .cells #[.int .i64 0, .int .i64 0, .int .i64 0, .int .i64 0, .int .i64 0] 44) (o2 := .cells #[.int .i64 21, .int .i64 (q : Int)] 33))
    have HO11 := hid_mk (HOY.out.trans p11)
    clear o11 p11 HOp HPY HHY fVY fXVY fXFY HOY fYV fYF
    obtain ⟨u0, u1, u2, u3⟩ := val_facts fV11.out
    go_wp2_with fail
    clear u0 u1 u2 u3
    obtain ⟨V11, hV11⟩ : ∃ V, (X11.alloc (.cells #[.int .i64 0, .int .i64 0, .int .i64 0, .int .i64 0, .int .i64 0] 44)).alloc (.cells #[.int .i64 21, .int .i64 (q : Int)] 33) = V := ⟨_, rfl⟩
    obtain ⟨g11, hg11⟩ : ∃ g, X11.heap.size = g := ⟨_, rfl⟩
    rw [hV11] at HP11 HH11 fV11 fY11 fO11 HO11
    rw [hg11] at fO11
    (try rw [hV11])
    (try rw [hg11])
    clear hV11 hg11
    refine (Get_gt HP11.out HH11.out HqO.out 1 (tn_get HRt.out.1 HRt.out.2 HqO.out Hv.out 1)).mono ?_
    rintro e X12 ⟨rfl, o12⟩
    have p12 := o12.trans (((Out.refl 0 0 X12).alloc (.cells #[.int .i64 0, .int .i64 0] 31)).alloc (.cells #[.int .i64 21, .int .i64 (q : Int)] 33))
    have HP12 := hid_mk (HP11.out.quiet p12)
    have HH12 := hid_mk (p12.cell HH11.out (.inr (Nat.zero_le _)))
    have fV12 := hid_mk (p12.heap fV11.out (.inr (Nat.zero_le _)))
    have fY12 := hid_mk (p12.heap fY11.out (.inr (Nat.zero_le _)))
    have fO12 := hid_mk (p12.heap fO11.out (.inr (Nat.zero_le _)))
    have fG12 := hid_mk (two_second (w := X12) (o := .cells #[.int .i64 0, .int .i64 0] 31) (o2 := .cells #[.int .i64 21, .int .i64 (q : Int)] 33))
    have HO12 := hid_mk (HO11.out.trans p12)
    clear o12 p12 HP11 HH11 fV11 fY11 fO11 HO11
    obtain ⟨u0, u1, u2, u3⟩ := val_facts fV12.out
    go_wp2_with fail
    clear u0 u1 u2 u3
    obtain ⟨V12, hV12⟩ : ∃ V, (X12.alloc (.cells #[.int .i64 0, .int .i64 0] 31)).alloc (.cells #[.int .i64 21, .int .i64 (q : Int)] 33) = V := ⟨_, rfl⟩
    obtain ⟨g12, hg12⟩ : ∃ g, X12.heap.size = g := ⟨_, rfl⟩
    rw [hV12] at HP12 HH12 fV12 fY12 fO12 fG12 HO12
    rw [hg12] at fG12
    (try rw [hV12])
    (try rw [hg12])
    clear hV12 hg12
    have HSt := hid_mk (Set_open HP12.out.1 (arenaO HP12.out.2) HH12.out 2 q 1 1 0 (by rw [Hopn.out.1]; decide))
    rw [Hopn.out.1, Hopn.out.2] at HSt
    refine HSt.out.mono ?_
    rintro e X13 ⟨rfl, o13⟩
    have p13 := o13.trans ((Out.refl 0 0 X13).alloc (.cells #[.int .i64 21, .int .i64 (q : Int)] 33))
    have p14 := p13.trans ((Out.refl 0 0 _).alloc (.cells #[.int .i64 21, .int .i64 (q : Int)] 33))
    obtain ⟨u0, u1, u2, u3⟩ := val_facts (p13.heap fV12.out (.inr (Nat.zero_le _)))
    obtain ⟨b0, b1, b2, b3⟩ := flt_facts (p14.heap fY12.out (.inr (Nat.zero_le _)))
    obtain ⟨c0, c1, c2, c3⟩ := flt_facts (p14.heap fO12.out (.inr (Nat.zero_le _)))
    obtain ⟨d0, d1, d2, d3⟩ := flt_facts (p14.heap fG12.out (.inr (Nat.zero_le _)))
    have HE := hid_mk (HO12.out.trans p14)
    clear o13 p13 p14 HSt HP12 HH12 fV12 fY12 fO12 fG12 HO12
    go_wp2
    go_ret
    exact ⟨rfl, HE.out⟩
  have i1 : (1 : Int) ≤ (i : Int) := by omega
  have Hi1 : Hid (1 ≤ i) := by show 1 ≤ i; omega
  have hTn := tn_word HRt.out.1 HRt.out.2 HqO.out Hi1.out (by rw [HtO.out]; exact hi5') Hv.out Hx.out Hy.out
  clear hi0
  rcases hTn with ⟨rfl, rfl⟩ | ⟨n1, r1, rfl, r2, r3, r4⟩ | ⟨n1, r1, rfl, rfl⟩
  · obtain ⟨b0, b1, b2, b3⟩ := flt_facts fXFY.out
    rw [← hgy] at fYF
    obtain ⟨c0, c1, c2, c3⟩ := flt_facts fYF.out
    go_wp2
    go_ret
    exact ⟨rfl, HOY.out⟩
  · obtain ⟨b0, b1, b2, b3⟩ := flt_facts fXFY.out
    obtain ⟨u0, u1, u2, u3⟩ := val_facts fVY.out
    have n1' : (x3 == 32) = false := by simpa using n1
    have Hr1 := hid_mk r1
    have Hr2 := hid_mk r2
    have hN := fun W => nev r4 W
    clear n1 r1 r2 r4
    go_wp2_with fail
    clear b0 b1 b2 b3 u0 u1 u2 u3
    obtain ⟨V10, hV10⟩ : ∃ V, (X10.alloc (.cells #[.int .i64 y1, .int .i64 y2] 31)).alloc (.cells #[.int .i64 0, .int .i64 y4] 33) = V := ⟨_, rfl⟩
    rw [hV10] at HPY HHY fVY fXVY fXFY HOY fYV fYF
    (try rw [hV10])
    (try rw [hgy])
    clear hV10 hgy
    refine (Right_any HPY.out.1 (arenaO HPY.out.2) HHY.out q i v).mono ?_
    rw [Hr1.out]
    rintro e X11 ⟨rfl, o11⟩
    obtain ⟨b0, b1, b2, b3⟩ := flt_facts (o11.heap fYF.out (.inr (Nat.zero_le _)))
    obtain ⟨c0, c1, c2, c3⟩ := val_facts (o11.heap fYV.out (.inr (Nat.zero_le _)))
    obtain ⟨d0, d1, d2, d3⟩ := val_facts (o11.heap fXVY.out (.inr (Nat.zero_le _)))
    have HE := hid_mk (HOY.out.trans o11)
    clear o11
    go_wp2_with fail
    refine (word_any Hr2.out _).mono ?_
    rintro e X12 ⟨rfl, o12⟩
    clear b0 b1 b2 b3 c0 c1 c2 c3 d0 d1 d2 d3
    go_wp2
    go_ret
    exact ⟨rfl, HE.out.trans o12⟩
  · obtain ⟨b0, b1, b2, b3⟩ := flt_facts fXFY.out
    obtain ⟨u0, u1, u2, u3⟩ := val_facts fVY.out
    have n1' : (x3 == 32) = false := by simpa using n1
    have Hr1 := hid_mk r1
    have hE : ∀ W, (binOp .eql 33 (.agg #[.int .i64 21, .int .i64 ((q : Int) + (i : Int))]) (.agg #[.int .i64 21, .int .i64 ((q : Int) + (i : Int))])).run Tryz.prog W = .ok (.bool true) W := fun W => by rw [eqf]; simp
    clear n1 r1
    go_wp2_with fail
    clear b0 b1 b2 b3 u0 u1 u2 u3
    obtain ⟨V10, hV10⟩ : ∃ V, (X10.alloc (.cells #[.int .i64 y1, .int .i64 y2] 31)).alloc (.cells #[.int .i64 21, .int .i64 ((q : Int) + (i : Int))] 33) = V := ⟨_, rfl⟩
    rw [hV10] at HPY HHY fVY fXVY fXFY HOY fYV fYF
    (try rw [hV10])
    (try rw [hgy])
    clear hV10 hgy
    refine (Right_any HPY.out.1 (arenaO HPY.out.2) HHY.out q i v).mono ?_
    rw [Hr1.out]
    rintro e X11 ⟨rfl, o11⟩
    obtain ⟨b0, b1, b2, b3⟩ := flt_facts (o11.heap fYF.out (.inr (Nat.zero_le _)))
    obtain ⟨u0, u1, u2, u3⟩ := val_facts (o11.heap fVY.out (.inr (Nat.zero_le _)))
    have HE := hid_mk (HOY.out.trans o11)
    clear o11
    go_wp2
    go_ret
    exact ⟨rfl, HE.out⟩
end Go.Proofs.YtcpignkjlnjjmaaGreatDoor
namespace Go.Proofs.YtcpignkjlnjjmaaGreatDoor
open Go.ChangeShapes Go.WideShapes Go.ChangeAt Go.RowKit Go.Deep
set_option linter.unusedVariables false
set_option linter.unusedSimpArgs false

theorem cell_in {w : World} {a : Addr} {v : Value} (h : w.cell? a = some v) : a.block < w.heap.size := by
  by_cases hb : a.block < w.heap.size
  · exact hb
  · have : w.heap[a.block]? = none := by simp; omega
    simp [World.cell?, this] at h
theorem open_list {H : Type} {enc : TypeId × Value → H} {W : World} {fuel : Nat} {cs : List Value} {x : DataW H × List MemPlace} (h : DataW.trod enc Tryz.prog W 0 (fun _ => true) true fuel 39 cs = some x) :
    ∃ (p : Option Addr) (L : List Int) (cap : Nat), cs = [.slice p L.length cap] ∧ SlI W W.heap.size p L := by
  rcases open_slice1 Tryz.underlying39 cells_int h with h0 | ⟨a, len, cap, m, n, V, D, Pl, rfl, hb, hl, hm, hmm, rfl, hx⟩
  · exact ⟨none, [], 0, h0.1, ⟨(fun x hx => by cases hx), .inl rfl⟩⟩
  simp only [if_true] at hmm
  subst hmm
  have each : ∀ i, i < len → ∃ z : Int, W.cell? (a.add i) = some (.int .i64 z) ∧ -9223372036854775808 ≤ z ∧ z ≤ 9223372036854775807 := by
    intro i hi
    obtain ⟨h1, h2⟩ := hx i (by omega)
    obtain ⟨z, e, _, hw⟩ := DataW.trod_int Tryz.underlying3 h2
    simp only [List.cons.injEq, and_true] at e
    exact ⟨z, by rw [h1, e], i64_bounds hw⟩
  obtain ⟨q, hq⟩ := choose_lt each
  have hlen : ((List.range len).map q).length = len := by simp
  refine ⟨some a, (List.range len).map q, _, by rw [hlen], ⟨fun x hx => ?_, ?_⟩⟩
  · obtain ⟨i, hi, rfl⟩ := List.mem_map.1 hx
    exact (hq i (by simpa using hi)).2
  · by_cases h0 : len = 0
    · left; subst h0; rfl
    · right
      obtain ⟨b, off, spot⟩ := a
      have hspot : spot = none := by
        have := (hq 0 (by omega)).1
        simpa [Addr.add] using World.cell?_spot this
      subst hspot
      refine ⟨b, off, rfl, ?_, fun j x hj => ?_⟩
      · have := cell_in (hq 0 (by omega)).1
        simpa [Addr.add] using this
      · have hj' : j < len := by have := (List.getElem?_eq_some_iff.1 hj).1; simpa using this
        have e : x = q j := by rw [List.getElem?_map, List.getElem?_range hj'] at hj; simpa using hj.symm
        rw [e]
        have := (hq j hj').1
        rw [add_plain] at this
        exact this
end Go.Proofs.YtcpignkjlnjjmaaGreatDoor
