import Derived.Test.YtjbbkeoolodeaaaGreatDoorG33
import Derived.Test.YtjbbkeoolodeaaaGreatDoorG20
import Derived.Deep.RegionHeld3
namespace Go.Proofs.YtjbbkeoolodeaaaGreatDoor
open Go.RowKit
set_option linter.unusedVariables false
set_option linter.unusedSimpArgs false

theorem field_e (a b : Int) (w : World) : (Instr.field 97 (.agg #[.int .i64 a, .int .i64 b]) 0).run Tryz.prog w = .ok (.int .i64 a) w := by kernel_rfl
/-- a wrong header, or a wrong link of a class below c, or one of the class c below f -/
def lkP (n : Nat) (r : Raw) (c f k : Nat) : Bool := wrTo n r c k || (lkBad n r c k && decide (k < f))
theorem nxr_one {N i : Nat} {b : Bool} (hi : i < N) : nxr (fun k => decide (k = i) && b) N 0 = if b then (i : Int) else -1 := by
  cases b with
  | true => rw [if_pos rfl]; exact nxr_of hi (Nat.zero_le _) (by simp) (fun j _ hj => by simp; omega)
  | false =>
    rw [if_neg (by simp)]
    rcases nxr_cases (fun k => decide (k = i) && false) N 0 with ⟨e, _⟩ | ⟨j, _, _, _, e, _⟩
    · exact e
    · simp at e
theorem nxr_end (A : Nat → Bool) (N : Nat) : nxr A N N = -1 := by
  rcases nxr_cases A N N with ⟨e, _⟩ | ⟨j, _, e, k, _⟩
  · exact e
  · have := k (Nat.le_refl _); omega
theorem nxr_back {A : Nat → Bool} {N j : Nat} (hj : j < N) : nxr A N j = if A j then (j : Int) else nxr A N (j + 1) := by
  cases h : A j with
  | true => rw [if_pos rfl]; exact nxr_of hj (Nat.le_refl _) h (fun k h1 h2 => by omega)
  | false =>
    rw [if_neg (by simp)]
    rcases nxr_cases A N (j + 1) with ⟨e, f⟩ | ⟨i, e, i1, i2, i3, i4⟩
    · rw [e]
      rcases nxr_cases A N j with ⟨e2, _⟩ | ⟨i, _, i1, i2, i3, _⟩
      · exact e2
      · have hji := i2 (by omega)
        by_cases q : i = j
        · rw [q, h] at i3; cases i3
        · rw [f i (by omega) i1] at i3; cases i3
    · rw [e]
      have := i2 (by omega)
      exact nxr_of i1 (by omega) i3 (fun k h1 h2 => by
        by_cases q : k = j
        · rw [q]; exact h
        · exact i4 k (by omega) h2)
section
variable {n : Nat} {st : Sp}
theorem lk_start {c : Nat} {f : Nat} (hf : ∀ k, k < f → k < 64 * n → fr n st (c : Int) k = false) : nxr (lkP n (rawOf n st) c f) (64 * n) 0 = nxr (wrTo n (rawOf n st) c) (64 * n) 0 := by
  refine nxr_congr fun k _ hk => ?_
  unfold lkP
  by_cases h : k < f
  · have : lkBad n (rawOf n st) c k = false := by
      show (fr n st (c : Int) k && _) = false
      rw [hf k h hk]; rfl
    rw [this]; simp
  · simp [h]
theorem lk_last {c f : Nat} (hf : 64 * n ≤ f) : nxr (lkP n (rawOf n st) c f) (64 * n) 0 = nxr (wrTo n (rawOf n st) (c + 1)) (64 * n) 0 := by
  refine nxr_congr fun k _ hk => ?_
  unfold lkP
  conv => rhs; unfold wrTo
  rw [show decide (k < f) = true from by simp; omega, Bool.and_true]
theorem lk_step {c i f : Nat} (hi : i < 64 * n) (hfr : fr n st (c : Int) i = true) (hf1 : i < f) (hf : ∀ k, i < k → k < f → k < 64 * n → fr n st (c : Int) k = false) :
    nxr (lkP n (rawOf n st) c f) (64 * n) 0 = if st.W i ≠ linkV (nf n st (c : Int) (i + 1)) ∧ (nxr (lkP n (rawOf n st) c i) (64 * n) 0 < 0 ∨ (i : Int) < nxr (lkP n (rawOf n st) c i) (64 * n) 0) then (i : Int) else nxr (lkP n (rawOf n st) c i) (64 * n) 0 := by
  have e : nxr (lkP n (rawOf n st) c f) (64 * n) 0 = nxr (fun k => lkP n (rawOf n st) c i k || (decide (k = i) && !(st.W i == linkV (nf n st (c : Int) (i + 1))))) (64 * n) 0 := by
    refine nxr_congr fun k _ hk => ?_
    unfold lkP
    by_cases h1 : k < i
    · rw [show decide (k < f) = true from by simp; omega, show decide (k < i) = true from by simp; omega, show decide (k = i) = false from by simp; omega]
      simp
    · rw [show decide (k < i) = false from by simp; omega]
      by_cases h2 : k = i
      · subst h2
        rw [show decide (k < f) = true from by simp; omega]
        have : lkBad n (rawOf n st) c k = !(st.W k == linkV (nf n st (c : Int) (k + 1))) := by
          show (fr n st (c : Int) k && _) = _
          rw [hfr]; rfl
        rw [this]; simp
      · rw [show decide (k = i) = false from by simp; omega]
        by_cases h3 : k < f
        · have : lkBad n (rawOf n st) c k = false := by
            show (fr n st (c : Int) k && _) = false
            rw [hf k (by omega) h3 hk]; rfl
          rw [this]; simp
        · simp [h3]
  rw [e, nxr_or, nxr_one hi]
  by_cases hb : st.W i = linkV (nf n st (c : Int) (i + 1))
  · rw [show (st.W i == linkV (nf n st (c : Int) (i + 1))) = true from by simpa using hb]
    rw [if_neg (by simp), if_neg (fun q => q.1 hb)]
  · rw [show (st.W i == linkV (nf n st (c : Int) (i + 1))) = false from by simpa using hb]
    simp only [Bool.not_false, if_true]
    by_cases q : nxr (lkP n (rawOf n st) c i) (64 * n) 0 < 0 ∨ (i : Int) < nxr (lkP n (rawOf n st) c i) (64 * n) 0
    · rw [if_pos ⟨by omega, q⟩, if_pos ⟨hb, q⟩]
    · rw [if_neg (fun z => q z.2), if_neg (fun z => q z.2)]
theorem hd_bad {k : Nat} (hI : Inv n st) : hdBad (rawOf n st) k = (hasB (st.O k) && !(st.W k == makeV k (st.O k).1 (st.O k).2.1)) := by
  unfold hdBad
  rw [raw_P hI]
  cases hb : hasB (st.O k) with
  | false => rfl
  | true => rw [raw_M hb]; rfl
theorem chk_bad {k : Nat} (hb : hasB (st.O k) = true) : chkE (rawOf n st) (k : Int) = if st.W k = makeV k (st.O k).1 (st.O k).2.1 then 0 else 21 := by
  unfold chkE
  rw [raw_M hb, show ((k : Nat) : Int).toNat = k from by omega]
  rfl
end
theorem fr_next (n : Nat) (st : Sp) (c : Int) {f : Nat} (hf : f ≤ 64 * n) : ∃ f', f ≤ f' ∧ ((nf n st c f = -1 ∧ 64 * n ≤ f') ∨ (nf n st c f = (f' : Int) ∧ f' < 64 * n ∧ fr n st c f' = true)) ∧ ∀ k, f ≤ k → k < f' → k < 64 * n → fr n st c k = false := by
  unfold nf
  rcases nxr_cases (fr n st c) (64 * n) f with ⟨e, h⟩ | ⟨i, e, i1, i2, i3, i4⟩
  · exact ⟨64 * n, hf, .inl ⟨e, Nat.le_refl _⟩, fun k h1 _ h3 => h k h1 h3⟩
  · exact ⟨i, i2 hf, .inr ⟨e, i1, i3⟩, fun k h1 h2 _ => i4 k h1 h2⟩
section
variable {w : World} {lo hi n cw co : Nat} {s : Nat → Nat} {st : Sp}
set_option maxRecDepth 100000 in
set_option maxHeartbeats 16000000 in
theorem refWrong_any (h : RfAt w lo hi s n cw co st) (hI : Inv n st) : Calls Tryz.prog 33 #[.pointer (some ⟨s 0, 0, none⟩)] w fun e w' => e = .returned (.int .i64 (nxr (wrTo n (rawOf n st) 8) (64 * n) 0)) ∧ Out 0 0 w w' := by
  have h2 := h.n2
  obtain ⟨M, hM⟩ : ∃ M, 64 * n = M := ⟨_, rfl⟩
  have M1 : (M : Int) ≤ 262144 := by omega
  have M0 : (0 : Int) ≤ (M : Int) := by omega
  have HH := hid_mk h
  have HM := hid_mk hM
  have HI := hid_mk hI
  have c2 := h.cells.2.2.1
  rw [hM] at c2
  have hfe := field_e
  clear h h2 hM hI
  go_enter Tryz.func33, Tryz.ntmps33
  go_wp2_with fail
  clear c2
  go_loopw [3, 4] (fun l u wr => ∃ j : Nat, u = .int .i64 ((j : Int) - 1) ∧ l = .int .i64 (nxr (hdBad (rawOf n st)) (64 * n) j) ∧ j ≤ M ∧ Out 0 0 w wr) (fun _ u _ => (intOf u + 1).toNat)
  case atStart => exact ⟨M, rfl, by rw [HM.out, nxr_end], Nat.le_refl _, Out.refl _ _ _⟩
  case round =>
    obtain ⟨j, rfl, rfl, jb, hO⟩ := hrel
    have hR := HH.out.quiet hO
    have c2 := hR.cells.2.2.1
    rw [HM.out] at c2
    have HO := hid_mk hO
    have HR := hid_mk hR
    clear hO hR
    by_cases hj : 0 < j
    · obtain ⟨a, rfl⟩ : ∃ a, j = a + 1 := ⟨j - 1, by omega⟩
      have ea : ((a + 1 : Nat) : Int) - 1 = (a : Int) := by omega
      rw [ea]
      have a0 : (0 : Int) ≤ (a : Int) := by omega
      have a1 : (a : Int) < (M : Int) := by omega
      have hm := HM.out
      have d1 := HR.out.ro.cell (i := a * 5 + 1) (by omega)
      rw [obC_kind] at d1
      have hbk := nxr_back (A := hdBad (rawOf n st)) (N := 64 * n) (j := a) (by omega)
      rw [hd_bad HI.out] at hbk
      obtain ⟨x, hx⟩ : ∃ x, nxr (hdBad (rawOf n st)) (64 * n) (a + 1) = x := ⟨_, rfl⟩
      rw [hx] at hbk ⊢
      cases hb : hasB (st.O a) with
      | false =>
        rw [hb, if_neg (by simp)] at d1
        rw [hb] at hbk
        simp only [Bool.false_and, Bool.false_eq_true, if_false] at hbk
        have HN := hid_mk hbk
        clear hb hm hbk hx
        go_wp2_with fail
        exact ⟨⟨a, by congr 1, by rw [HN.out], by omega, HO.out⟩, by simp [intOf] <;> omega⟩
      | true =>
        have hck := chk_bad (n := n) hb
        have HC := hid_mk (refCheck_any HR.out HI.out (a : Int))
        rw [hb, if_pos rfl] at d1
        rw [hb, Bool.true_and] at hbk
        obtain ⟨k, hk⟩ : ∃ k, (st.O a).1 = k := ⟨_, rfl⟩
        rw [hk] at d1 hck hbk
        have hk0 : k ≠ 0 := by unfold hasB at hb; rw [hk] at hb; simpa using hb
        have hkb : (k != 0) = true := by simpa using hk0
        obtain ⟨ca, hca⟩ : ∃ ca, chkA (rawOf n st) (a : Int) = ca := ⟨_, rfl⟩
        rw [hca] at HC
        unfold fltV at HC
        by_cases hg : st.W a = makeV a k (st.O a).2.1
        · rw [if_pos hg] at hck
          rw [hck] at HC
          rw [show (st.W a == makeV a k (st.O a).2.1) = true from by simpa using hg] at hbk
          simp only [Bool.not_true, Bool.false_eq_true, if_false] at hbk
          have HN := hid_mk hbk
          clear hb hm hbk hx hk hca hg hck
          go_wp2_with (go_at_call 57; refine HC.out.mono ?_; rintro e w1 ⟨rfl, ho⟩)
          exact ⟨⟨a, by congr 1, by rw [HN.out], by omega, HO.out.trans ho⟩, by simp [intOf] <;> omega⟩
        · rw [if_neg hg] at hck
          rw [hck] at HC
          rw [show (st.W a == makeV a k (st.O a).2.1) = false from by simpa using hg] at hbk
          simp only [Bool.not_false, if_true] at hbk
          have HN := hid_mk hbk
          clear hb hm hbk hx hk hca hg hck
          go_wp2_with (go_at_call 57; refine HC.out.mono ?_; rintro e w1 ⟨rfl, ho⟩)
          exact ⟨⟨a, by congr 1, by rw [HN.out], by omega, HO.out.trans ho⟩, by simp [intOf] <;> omega⟩
    · have e : j = 0 := by omega
      subst e
      have e1 : ((0 : Nat) : Int) - 1 = -1 := rfl
      rw [e1]
      obtain ⟨L0, hL0⟩ : ∃ L0, nxr (hdBad (rawOf n st)) (64 * n) 0 = L0 := ⟨_, rfl⟩
      rw [hL0]
      have HL0 := hid_mk hL0
      clear hL0 c2
      go_wp2_with fail
      go_loopw [3, 5] (fun l u wq => ∃ c : Nat, u = .int .i64 (c : Int) ∧ l = .int .i64 (nxr (wrTo n (rawOf n st) c) (64 * n) 0) ∧ c ≤ 8 ∧ Out 0 0 w wq) (fun _ u _ => (8 - intOf u).toNat)
      case atStart => exact ⟨0, rfl, by rw [← HL0.out]; rfl, Nat.zero_le _, HO.out⟩
      case round =>
        clear HO HR HL0
        obtain ⟨c, rfl, rfl, cb, hO⟩ := hrel
        have hR := HH.out.quiet hO
        have HO := hid_mk hO
        have c0 : (0 : Int) ≤ (c : Int) := by omega
        by_cases hc : c < 8
        · have c1 : (c : Int) < 8 := by omega
          have HNx := hid_mk (refNext_any hR hc (f := 0) (Nat.zero_le _))
          rw [show ((0 : Nat) : Int) = 0 from rfl] at HNx
          obtain ⟨f0, _, hf0, hz0⟩ := fr_next n st (c : Int) (f := 0) (Nat.zero_le _)
          have HS0 := hid_mk (And.intro (lk_start (n := n) (st := st) (c := c) (f := f0) (fun k h1 h2 => hz0 k (Nat.zero_le _) h1 h2)) hf0)
          obtain ⟨x0, hx0⟩ : ∃ x, nf n st (c : Int) 0 = x := ⟨_, rfl⟩
          obtain ⟨L0, hL0⟩ : ∃ x, nxr (wrTo n (rawOf n st) c) (64 * n) 0 = x := ⟨_, rfl⟩
          rw [hx0] at HNx HS0
          rw [hL0] at HS0 ⊢
          clear hO hR hf0 hz0 hx0 hL0
          go_wp2_with (go_at_call 73; refine calls_same HNx.out ?_)
          go_loopw [3, 6] (fun l u wq => ∃ f : Nat, l = .int .i64 (nxr (lkP n (rawOf n st) c f) (64 * n) 0) ∧ ((u = .int .i64 (-1) ∧ 64 * n ≤ f) ∨ (u = .int .i64 (f : Int) ∧ f < 64 * n ∧ fr n st (c : Int) f = true)) ∧ Out 0 0 w wq) (fun _ u _ => ((M : Int) - (if intOf u < 0 then (M : Int) else intOf u)).toNat)
          case atStart =>
            refine ⟨f0, by rw [HS0.out.1], ?_, HO.out⟩
            rcases HS0.out.2 with ⟨e, h⟩ | ⟨e, h⟩
            · exact .inl ⟨by rw [e], h⟩
            · exact .inr ⟨by rw [e], h⟩
          case round =>
            clear HO HNx HS0
            obtain ⟨f, rfl, hu, hO⟩ := hrel
            have hR := HH.out.quiet hO
            rcases hu with ⟨rfl, hf⟩ | ⟨rfl, hf, hfr⟩
            · have HE := hid_mk (And.intro (lk_last (n := n) (st := st) (c := c) hf) hO)
              clear hO hR hf
              go_wp2_with fail
              exact ⟨⟨c + 1, by congr 1, by rw [HE.out.1], by omega, HE.out.2⟩, by simp [intOf] <;> omega⟩
            · have hm := HM.out
              have f0 : (0 : Int) ≤ (f : Int) := by omega
              have f1 : (f : Int) < (M : Int) := by omega
              have c0' := hR.cells.1
              rw [hm] at c0'
              have d0 := hR.rw.cell (i := f) hf
              have HN2 := hid_mk (refNext_any hR hc (f := f + 1) (by omega))
              obtain ⟨f', hf1, hfx, hfz⟩ := fr_next n st (c : Int) (f := f + 1) (by omega)
              have hSt := lk_step (n := n) (st := st) (c := c) (i := f) (f := f') hf hfr (by omega) (fun k h1 h2 h3 => hfz k h1 h2 h3)
              have hge : -1 ≤ nf n st (c : Int) (f + 1) ∧ nf n st (c : Int) (f + 1) ≤ 262143 := by
                rcases hfx with ⟨e, _⟩ | ⟨e, h, _⟩ <;> rw [e] <;> omega
              have HLk := hid_mk (fun w => refLink_any hge.1 hge.2 w)
              obtain ⟨x, hx⟩ : ∃ x, nf n st (c : Int) (f + 1) = x := ⟨_, rfl⟩
              obtain ⟨L, hL⟩ : ∃ L, nxr (lkP n (rawOf n st) c f) (64 * n) 0 = L := ⟨_, rfl⟩
              obtain ⟨y, hy⟩ : ∃ y, st.W f = y := ⟨_, rfl⟩
              obtain ⟨z, hz⟩ : ∃ z, linkV x = z := ⟨_, rfl⟩
              rw [hx] at HN2 hfx hSt HLk hge
              rw [hL] at hSt ⊢
              rw [hy] at d0 hSt
              rw [hz] at hSt HLk
              rw [show ((f + 1 : Nat) : Int) = (f : Int) + 1 from by omega] at HN2
              have HX := hid_mk (And.intro hfx hf1)
              have x1 := hge.1
              have x2 := hge.2
              have HEnd : Hid (∀ (l : Int) (W : World), nxr (lkP n (rawOf n st) c f') (64 * n) 0 = l → Out 0 0 w W → (∃ f : Nat, Value.int .i64 l = .int .i64 (nxr (lkP n (rawOf n st) c f) (64 * n) 0) ∧ ((Value.int .i64 x = .int .i64 (-1) ∧ 64 * n ≤ f) ∨ (Value.int .i64 x = .int .i64 (f : Int) ∧ f < 64 * n ∧ fr n st (c : Int) f = true)) ∧ Out 0 0 w W)) := by
                intro l W hl ho
                refine ⟨f', by rw [hl], ?_, ho⟩
                rcases HX.out.1 with ⟨e, h⟩ | ⟨e, h⟩
                · exact .inl ⟨by rw [e], h⟩
                · exact .inr ⟨by rw [e], h⟩
              have HMs : Hid ((M : Int) - (if x < 0 then (M : Int) else x) < (M : Int) - (f : Int)) := by
                show _ < _
                rcases HX.out.1 with ⟨e, h⟩ | ⟨e, h, _⟩
                · rw [e, if_pos (by omega)]; omega
                · have := HX.out.2; rw [e, if_neg (by omega)]; omega
              clear hR hfr hfx hfz hge hx hL hy hz hm hf hf1 HX
              by_cases hyz : y = z
              · have e1 : (y != z) = false := by simpa using hyz
                rw [if_neg (fun q => q.1 hyz)] at hSt
                have HSt := hid_mk hSt
                clear hyz hSt
                go_wp2_with (go_at_call 73; refine calls_same HN2.out ?_)
                refine wp_region_held_drew (S := fun w' => w'.cell? ⟨s 0, 0, none⟩ = some (.slice (some ⟨s 1, 0, none⟩) M cw) ∧ w'.cell? ⟨s 1, f, none⟩ = some (.int .i64 y)) (by kernel_rfl) ?hS1 (fun hHeld => ?rest1)
                case hS1 => exact ⟨c0', d0⟩
                refine wpAnyH_take (i := 0) (v := ?v2) rfl (by kernel_rfl) (by kernel_rfl) (by kernel_rfl) (fun _ _ _ h => h) (Or.inl ⟨by rfl, ?hy2⟩) (by assumption) ?rest2
                case hy2 => (intro w hSw; (try dsimp only at hSw); simp only [List.getElem_toArray, List.getElem_cons_zero, List.getElem_cons_succ]; go_simp; (try with_reducible rfl))
                (try simp only [Act.put, List.getElem_toArray, List.getElem_cons_zero, List.getElem_cons_succ, List.setIfInBounds_toArray, List.set_cons_zero, List.set_cons_succ])
                refine wpAnyH_take (i := 1) (v := ?v3) rfl (by kernel_rfl) (by kernel_rfl) (by kernel_rfl) (fun _ _ _ h => h) (Or.inl ⟨by rfl, ?hy3⟩) (by assumption) ?rest3
                case hy3 => (intro w hSw; (try dsimp only at hSw); simp only [List.getElem_toArray, List.getElem_cons_zero, List.getElem_cons_succ]; go_simp; (try with_reducible rfl))
                (try simp only [Act.put, List.getElem_toArray, List.getElem_cons_zero, List.getElem_cons_succ, List.setIfInBounds_toArray, List.set_cons_zero, List.set_cons_succ])
                refine wpAnyH_take (i := 2) (v := ?v4) rfl (by kernel_rfl) (by kernel_rfl) (by kernel_rfl) (fun _ _ _ h => h) (Or.inl ⟨by rfl, ?hy4⟩) (by assumption) ?rest4
                case hy4 => (intro w hSw; (try dsimp only at hSw); simp only [List.getElem_toArray, List.getElem_cons_zero, List.getElem_cons_succ]; go_simp; (try with_reducible rfl))
                (try simp only [Act.put, List.getElem_toArray, List.getElem_cons_zero, List.getElem_cons_succ, List.setIfInBounds_toArray, List.set_cons_zero, List.set_cons_succ])
                refine wpAnyH_take (i := 3) (v := ?v5) rfl (by kernel_rfl) (by kernel_rfl) (by kernel_rfl) (fun _ _ _ h => h) (Or.inl ⟨by rfl, ?hy5⟩) (by assumption) ?rest5
                case hy5 => (intro w hSw; (try dsimp only at hSw); simp only [List.getElem_toArray, List.getElem_cons_zero, List.getElem_cons_succ]; go_simp; (try with_reducible rfl))
                (try simp only [Act.put, List.getElem_toArray, List.getElem_cons_zero, List.getElem_cons_succ, List.setIfInBounds_toArray, List.set_cons_zero, List.set_cons_succ])
                refine wpAnyH_take (i := 4) (v := ?v6) rfl (by kernel_rfl) (by kernel_rfl) (by kernel_rfl) (fun _ _ _ h => h) (Or.inl ⟨by rfl, ?hy6⟩) (by assumption) ?rest6
                case hy6 => (intro w hSw; (try dsimp only at hSw); simp only [List.getElem_toArray, List.getElem_cons_zero, List.getElem_cons_succ]; go_simp; (try with_reducible rfl))
                (try simp only [Act.put, List.getElem_toArray, List.getElem_cons_zero, List.getElem_cons_succ, List.setIfInBounds_toArray, List.set_cons_zero, List.set_cons_succ])
                refine wpAnyH_take (i := 5) (v := ?v7) rfl (by kernel_rfl) (by kernel_rfl) (by kernel_rfl) (fun _ _ _ h => h) (Or.inl ⟨by rfl, ?hy7⟩) (by assumption) ?rest7
                case hy7 => (intro w hSw; (try dsimp only at hSw); simp only [List.getElem_toArray, List.getElem_cons_zero, List.getElem_cons_succ]; go_simp; (try with_reducible rfl))
                (try simp only [Act.put, List.getElem_toArray, List.getElem_cons_zero, List.getElem_cons_succ, List.setIfInBounds_toArray, List.set_cons_zero, List.set_cons_succ])
                refine wpAnyH_take (i := 6) (v := ?v8) rfl (by kernel_rfl) (by kernel_rfl) (by kernel_rfl) (fun _ _ _ h => h) (Or.inl ⟨by rfl, ?hy8⟩) (by assumption) ?rest8
                case hy8 => (intro w hSw; (try dsimp only at hSw); simp only [List.getElem_toArray, List.getElem_cons_zero, List.getElem_cons_succ]; go_simp; (try with_reducible rfl))
                (try simp only [Act.put, List.getElem_toArray, List.getElem_cons_zero, List.getElem_cons_succ, List.setIfInBounds_toArray, List.set_cons_zero, List.set_cons_succ])
                refine wpAnyH_take (i := 7) (v := ?v9) rfl (by kernel_rfl) (by kernel_rfl) (by kernel_rfl) (fun _ _ _ h => h) (Or.inl ⟨by rfl, ?hy9⟩) (by assumption) ?rest9
                case hy9 => (intro w hSw; (try dsimp only at hSw); simp only [List.getElem_toArray, List.getElem_cons_zero, List.getElem_cons_succ]; go_simp; (try with_reducible rfl))
                (try simp only [Act.put, List.getElem_toArray, List.getElem_cons_zero, List.getElem_cons_succ, List.setIfInBounds_toArray, List.set_cons_zero, List.set_cons_succ])
                refine wpAnyH_ready (rs := [8]) (by kernel_rfl) (by simp) ?_
                refine AllReadyH.cons rfl (fun KK hK => ?_) AllReadyH.nil
                simp only [List.getElem_toArray, List.getElem_cons_zero, List.getElem_cons_succ]
                go_simp
                refine calls_same (HLk.out _) ?_
                refine hK.out _ _ ?hS10 (fun hHeld2 => ?rest10)
                case hS10 => exact hHeld
                clear hK KK
                (try clear hHeld)
                have hHeld := hHeld2
                clear hHeld2
                (try simp only [Act.put, List.getElem_toArray, List.getElem_cons_zero, List.getElem_cons_succ, List.setIfInBounds_toArray, List.set_cons_zero, List.set_cons_succ])
                refine wpAnyH_take (i := 9) (v := ?v11) rfl (by kernel_rfl) (by kernel_rfl) (by kernel_rfl) (fun _ _ _ h => h) (Or.inl ⟨by rfl, ?hy11⟩) (by assumption) ?rest11
                case hy11 => (intro w hSw; (try dsimp only at hSw); simp only [List.getElem_toArray, List.getElem_cons_zero, List.getElem_cons_succ]; go_simp; (try with_reducible rfl))
                (try simp only [Act.put, List.getElem_toArray, List.getElem_cons_zero, List.getElem_cons_succ, List.setIfInBounds_toArray, List.set_cons_zero, List.set_cons_succ])
                refine wpAnyH_take (i := 10) (v := ?v12) rfl (by kernel_rfl) (by kernel_rfl) (by kernel_rfl) (fun _ _ _ h => h) (Or.inl ⟨by rfl, ?hy12⟩) (by assumption) ?rest12
                case hy12 => (intro w hSw; (try dsimp only at hSw); simp only [List.getElem_toArray, List.getElem_cons_zero, List.getElem_cons_succ]; go_simp; (try with_reducible rfl))
                (try simp only [Act.put, List.getElem_toArray, List.getElem_cons_zero, List.getElem_cons_succ, List.setIfInBounds_toArray, List.set_cons_zero, List.set_cons_succ])
                refine wpAnyH_take (i := 11) (v := undef) rfl (by kernel_rfl) (by kernel_rfl) (by kernel_rfl) (fun _ _ _ h => h) (Or.inr ⟨by rfl, rfl⟩) (by assumption) ?rest13
                (try simp only [Act.put, List.getElem_toArray, List.getElem_cons_zero, List.getElem_cons_succ, List.setIfInBounds_toArray, List.set_cons_zero, List.set_cons_succ])
                refine wpAnyH_take (i := 12) (v := undef) rfl (by kernel_rfl) (by kernel_rfl) (by kernel_rfl) (fun _ _ _ h => h) (Or.inr ⟨by rfl, rfl⟩) (by assumption) ?rest14
                (try simp only [Act.put, List.getElem_toArray, List.getElem_cons_zero, List.getElem_cons_succ, List.setIfInBounds_toArray, List.set_cons_zero, List.set_cons_succ])
                refine wpAnyH_take (i := 13) (v := undef) rfl (by kernel_rfl) (by kernel_rfl) (by kernel_rfl) (fun _ _ _ h => h) (Or.inr ⟨by rfl, rfl⟩) (by assumption) ?rest15
                (try simp only [Act.put, List.getElem_toArray, List.getElem_cons_zero, List.getElem_cons_succ, List.setIfInBounds_toArray, List.set_cons_zero, List.set_cons_succ])
                refine wpAnyH_take (i := 14) (v := undef) rfl (by kernel_rfl) (by kernel_rfl) (by kernel_rfl) (fun _ _ _ h => h) (Or.inr ⟨by rfl, rfl⟩) (by assumption) ?rest16
                (try simp only [Act.put, List.getElem_toArray, List.getElem_cons_zero, List.getElem_cons_succ, List.setIfInBounds_toArray, List.set_cons_zero, List.set_cons_succ])
                refine wpAnyH_take (i := 15) (v := undef) rfl (by kernel_rfl) (by kernel_rfl) (by kernel_rfl) (fun _ _ _ h => h) (Or.inr ⟨by rfl, rfl⟩) (by assumption) ?rest17
                (try simp only [Act.put, List.getElem_toArray, List.getElem_cons_zero, List.getElem_cons_succ, List.setIfInBounds_toArray, List.set_cons_zero, List.set_cons_succ])
                refine wpAnyH_take (i := 16) (v := undef) rfl (by kernel_rfl) (by kernel_rfl) (by kernel_rfl) (fun _ _ _ h => h) (Or.inr ⟨by rfl, rfl⟩) (by assumption) ?rest18
                (try simp only [Act.put, List.getElem_toArray, List.getElem_cons_zero, List.getElem_cons_succ, List.setIfInBounds_toArray, List.set_cons_zero, List.set_cons_succ])
                refine wpAnyH_take (i := 17) (v := undef) rfl (by kernel_rfl) (by kernel_rfl) (by kernel_rfl) (fun _ _ _ h => h) (Or.inr ⟨by rfl, rfl⟩) (by assumption) ?rest19
                (try simp only [Act.put, List.getElem_toArray, List.getElem_cons_zero, List.getElem_cons_succ, List.setIfInBounds_toArray, List.set_cons_zero, List.set_cons_succ])
                refine wpAnyH_take (i := 18) (v := ?v20) rfl (by kernel_rfl) (by kernel_rfl) (by kernel_rfl) (fun _ _ _ h => h) (Or.inl ⟨by rfl, ?hy20⟩) (by assumption) ?rest20
                case hy20 => (intro w hSw; (try dsimp only at hSw); simp only [List.getElem_toArray, List.getElem_cons_zero, List.getElem_cons_succ]; go_simp; (try with_reducible rfl))
                (try simp only [Act.put, List.getElem_toArray, List.getElem_cons_zero, List.getElem_cons_succ, List.setIfInBounds_toArray, List.set_cons_zero, List.set_cons_succ])
                refine wpAnyH_done (by kernel_rfl) ?_ _
                clear hHeld
                have hOd := hO.drew
                clear hO
                go_wp2_with fail
                exact ⟨HEnd.out _ _ HSt.out hOd, by have := HMs.out; simp [intOf] <;> omega⟩
              · have e1 : (y != z) = true := by simpa using hyz
                by_cases hl : L < 0
                · have e2 : decide (L < 0) = true := by simpa using hl
                  rw [if_pos ⟨hyz, .inl hl⟩] at hSt
                  have HSt := hid_mk hSt
                  clear hyz hSt
                  go_wp2_with (go_at_call 73; refine calls_same HN2.out ?_)
                  refine wp_region_held_drew (S := fun w' => w'.cell? ⟨s 0, 0, none⟩ = some (.slice (some ⟨s 1, 0, none⟩) M cw) ∧ w'.cell? ⟨s 1, f, none⟩ = some (.int .i64 y)) (by kernel_rfl) ?hS21 (fun hHeld => ?rest21)
                  case hS21 => exact ⟨c0', d0⟩
                  refine wpAnyH_take (i := 0) (v := ?v22) rfl (by kernel_rfl) (by kernel_rfl) (by kernel_rfl) (fun _ _ _ h => h) (Or.inl ⟨by rfl, ?hy22⟩) (by assumption) ?rest22
                  case hy22 => (intro w hSw; (try dsimp only at hSw); simp only [List.getElem_toArray, List.getElem_cons_zero, List.getElem_cons_succ]; go_simp; (try with_reducible rfl))
                  (try simp only [Act.put, List.getElem_toArray, List.getElem_cons_zero, List.getElem_cons_succ, List.setIfInBounds_toArray, List.set_cons_zero, List.set_cons_succ])
                  refine wpAnyH_take (i := 1) (v := ?v23) rfl (by kernel_rfl) (by kernel_rfl) (by kernel_rfl) (fun _ _ _ h => h) (Or.inl ⟨by rfl, ?hy23⟩) (by assumption) ?rest23
                  case hy23 => (intro w hSw; (try dsimp only at hSw); simp only [List.getElem_toArray, List.getElem_cons_zero, List.getElem_cons_succ]; go_simp; (try with_reducible rfl))
                  (try simp only [Act.put, List.getElem_toArray, List.getElem_cons_zero, List.getElem_cons_succ, List.setIfInBounds_toArray, List.set_cons_zero, List.set_cons_succ])
                  refine wpAnyH_take (i := 2) (v := ?v24) rfl (by kernel_rfl) (by kernel_rfl) (by kernel_rfl) (fun _ _ _ h => h) (Or.inl ⟨by rfl, ?hy24⟩) (by assumption) ?rest24
                  case hy24 => (intro w hSw; (try dsimp only at hSw); simp only [List.getElem_toArray, List.getElem_cons_zero, List.getElem_cons_succ]; go_simp; (try with_reducible rfl))
                  (try simp only [Act.put, List.getElem_toArray, List.getElem_cons_zero, List.getElem_cons_succ, List.setIfInBounds_toArray, List.set_cons_zero, List.set_cons_succ])
                  refine wpAnyH_take (i := 3) (v := ?v25) rfl (by kernel_rfl) (by kernel_rfl) (by kernel_rfl) (fun _ _ _ h => h) (Or.inl ⟨by rfl, ?hy25⟩) (by assumption) ?rest25
                  case hy25 => (intro w hSw; (try dsimp only at hSw); simp only [List.getElem_toArray, List.getElem_cons_zero, List.getElem_cons_succ]; go_simp; (try with_reducible rfl))
                  (try simp only [Act.put, List.getElem_toArray, List.getElem_cons_zero, List.getElem_cons_succ, List.setIfInBounds_toArray, List.set_cons_zero, List.set_cons_succ])
                  refine wpAnyH_take (i := 4) (v := ?v26) rfl (by kernel_rfl) (by kernel_rfl) (by kernel_rfl) (fun _ _ _ h => h) (Or.inl ⟨by rfl, ?hy26⟩) (by assumption) ?rest26
                  case hy26 => (intro w hSw; (try dsimp only at hSw); simp only [List.getElem_toArray, List.getElem_cons_zero, List.getElem_cons_succ]; go_simp; (try with_reducible rfl))
                  (try simp only [Act.put, List.getElem_toArray, List.getElem_cons_zero, List.getElem_cons_succ, List.setIfInBounds_toArray, List.set_cons_zero, List.set_cons_succ])
                  refine wpAnyH_take (i := 5) (v := ?v27) rfl (by kernel_rfl) (by kernel_rfl) (by kernel_rfl) (fun _ _ _ h => h) (Or.inl ⟨by rfl, ?hy27⟩) (by assumption) ?rest27
                  case hy27 => (intro w hSw; (try dsimp only at hSw); simp only [List.getElem_toArray, List.getElem_cons_zero, List.getElem_cons_succ]; go_simp; (try with_reducible rfl))
                  (try simp only [Act.put, List.getElem_toArray, List.getElem_cons_zero, List.getElem_cons_succ, List.setIfInBounds_toArray, List.set_cons_zero, List.set_cons_succ])
                  refine wpAnyH_take (i := 6) (v := ?v28) rfl (by kernel_rfl) (by kernel_rfl) (by kernel_rfl) (fun _ _ _ h => h) (Or.inl ⟨by rfl, ?hy28⟩) (by assumption) ?rest28
                  case hy28 => (intro w hSw; (try dsimp only at hSw); simp only [List.getElem_toArray, List.getElem_cons_zero, List.getElem_cons_succ]; go_simp; (try with_reducible rfl))
                  (try simp only [Act.put, List.getElem_toArray, List.getElem_cons_zero, List.getElem_cons_succ, List.setIfInBounds_toArray, List.set_cons_zero, List.set_cons_succ])
                  refine wpAnyH_take (i := 7) (v := ?v29) rfl (by kernel_rfl) (by kernel_rfl) (by kernel_rfl) (fun _ _ _ h => h) (Or.inl ⟨by rfl, ?hy29⟩) (by assumption) ?rest29
                  case hy29 => (intro w hSw; (try dsimp only at hSw); simp only [List.getElem_toArray, List.getElem_cons_zero, List.getElem_cons_succ]; go_simp; (try with_reducible rfl))
                  (try simp only [Act.put, List.getElem_toArray, List.getElem_cons_zero, List.getElem_cons_succ, List.setIfInBounds_toArray, List.set_cons_zero, List.set_cons_succ])
                  refine wpAnyH_ready (rs := [8]) (by kernel_rfl) (by simp) ?_
                  refine AllReadyH.cons rfl (fun KK hK => ?_) AllReadyH.nil
                  simp only [List.getElem_toArray, List.getElem_cons_zero, List.getElem_cons_succ]
                  go_simp
                  refine calls_same (HLk.out _) ?_
                  refine hK.out _ _ ?hS30 (fun hHeld2 => ?rest30)
                  case hS30 => exact hHeld
                  clear hK KK
                  (try clear hHeld)
                  have hHeld := hHeld2
                  clear hHeld2
                  (try simp only [Act.put, List.getElem_toArray, List.getElem_cons_zero, List.getElem_cons_succ, List.setIfInBounds_toArray, List.set_cons_zero, List.set_cons_succ])
                  refine wpAnyH_take (i := 9) (v := ?v31) rfl (by kernel_rfl) (by kernel_rfl) (by kernel_rfl) (fun _ _ _ h => h) (Or.inl ⟨by rfl, ?hy31⟩) (by assumption) ?rest31
                  case hy31 => (intro w hSw; (try dsimp only at hSw); simp only [List.getElem_toArray, List.getElem_cons_zero, List.getElem_cons_succ]; go_simp; (try with_reducible rfl))
                  (try simp only [Act.put, List.getElem_toArray, List.getElem_cons_zero, List.getElem_cons_succ, List.setIfInBounds_toArray, List.set_cons_zero, List.set_cons_succ])
                  refine wpAnyH_take (i := 10) (v := ?v32) rfl (by kernel_rfl) (by kernel_rfl) (by kernel_rfl) (fun _ _ _ h => h) (Or.inl ⟨by rfl, ?hy32⟩) (by assumption) ?rest32
                  case hy32 => (intro w hSw; (try dsimp only at hSw); simp only [List.getElem_toArray, List.getElem_cons_zero, List.getElem_cons_succ]; go_simp; (try with_reducible rfl))
                  (try simp only [Act.put, List.getElem_toArray, List.getElem_cons_zero, List.getElem_cons_succ, List.setIfInBounds_toArray, List.set_cons_zero, List.set_cons_succ])
                  refine wpAnyH_take (i := 11) (v := ?v33) rfl (by kernel_rfl) (by kernel_rfl) (by kernel_rfl) (fun _ _ _ h => h) (Or.inl ⟨by rfl, ?hy33⟩) (by assumption) ?rest33
                  case hy33 => (intro w hSw; (try dsimp only at hSw); simp only [List.getElem_toArray, List.getElem_cons_zero, List.getElem_cons_succ]; go_simp; (try with_reducible rfl))
                  (try simp only [Act.put, List.getElem_toArray, List.getElem_cons_zero, List.getElem_cons_succ, List.setIfInBounds_toArray, List.set_cons_zero, List.set_cons_succ])
                  refine wpAnyH_take (i := 12) (v := ?v34) rfl (by kernel_rfl) (by kernel_rfl) (by kernel_rfl) (fun _ _ _ h => h) (Or.inl ⟨by rfl, ?hy34⟩) (by assumption) ?rest34
                  case hy34 => (intro w hSw; (try dsimp only at hSw); simp only [List.getElem_toArray, List.getElem_cons_zero, List.getElem_cons_succ]; go_simp; (try with_reducible rfl))
                  (try simp only [Act.put, List.getElem_toArray, List.getElem_cons_zero, List.getElem_cons_succ, List.setIfInBounds_toArray, List.set_cons_zero, List.set_cons_succ])
                  refine wpAnyH_take (i := 13) (v := ?v35) rfl (by kernel_rfl) (by kernel_rfl) (by kernel_rfl) (fun _ _ _ h => h) (Or.inl ⟨by rfl, ?hy35⟩) (by assumption) ?rest35
                  case hy35 => (intro w hSw; (try dsimp only at hSw); simp only [List.getElem_toArray, List.getElem_cons_zero, List.getElem_cons_succ]; go_simp; (try with_reducible rfl))
                  (try simp only [Act.put, List.getElem_toArray, List.getElem_cons_zero, List.getElem_cons_succ, List.setIfInBounds_toArray, List.set_cons_zero, List.set_cons_succ])
                  refine wpAnyH_take (i := 14) (v := undef) rfl (by kernel_rfl) (by kernel_rfl) (by kernel_rfl) (fun _ _ _ h => h) (Or.inr ⟨by rfl, rfl⟩) (by assumption) ?rest36
                  (try simp only [Act.put, List.getElem_toArray, List.getElem_cons_zero, List.getElem_cons_succ, List.setIfInBounds_toArray, List.set_cons_zero, List.set_cons_succ])
                  refine wpAnyH_take (i := 15) (v := undef) rfl (by kernel_rfl) (by kernel_rfl) (by kernel_rfl) (fun _ _ _ h => h) (Or.inr ⟨by rfl, rfl⟩) (by assumption) ?rest37
                  (try simp only [Act.put, List.getElem_toArray, List.getElem_cons_zero, List.getElem_cons_succ, List.setIfInBounds_toArray, List.set_cons_zero, List.set_cons_succ])
                  refine wpAnyH_take (i := 16) (v := undef) rfl (by kernel_rfl) (by kernel_rfl) (by kernel_rfl) (fun _ _ _ h => h) (Or.inr ⟨by rfl, rfl⟩) (by assumption) ?rest38
                  (try simp only [Act.put, List.getElem_toArray, List.getElem_cons_zero, List.getElem_cons_succ, List.setIfInBounds_toArray, List.set_cons_zero, List.set_cons_succ])
                  refine wpAnyH_take (i := 17) (v := ?v39) rfl (by kernel_rfl) (by kernel_rfl) (by kernel_rfl) (fun _ _ _ h => h) (Or.inl ⟨by rfl, ?hy39⟩) (by assumption) ?rest39
                  case hy39 => (intro w hSw; (try dsimp only at hSw); simp only [List.getElem_toArray, List.getElem_cons_zero, List.getElem_cons_succ]; go_simp; (try with_reducible rfl))
                  (try simp only [Act.put, List.getElem_toArray, List.getElem_cons_zero, List.getElem_cons_succ, List.setIfInBounds_toArray, List.set_cons_zero, List.set_cons_succ])
                  refine wpAnyH_take (i := 18) (v := ?v40) rfl (by kernel_rfl) (by kernel_rfl) (by kernel_rfl) (fun _ _ _ h => h) (Or.inl ⟨by rfl, ?hy40⟩) (by assumption) ?rest40
                  case hy40 => (intro w hSw; (try dsimp only at hSw); simp only [List.getElem_toArray, List.getElem_cons_zero, List.getElem_cons_succ]; go_simp; (try with_reducible rfl))
                  (try simp only [Act.put, List.getElem_toArray, List.getElem_cons_zero, List.getElem_cons_succ, List.setIfInBounds_toArray, List.set_cons_zero, List.set_cons_succ])
                  refine wpAnyH_done (by kernel_rfl) ?_ _
                  clear hHeld
                  have hOd := hO.drew
                  clear hO
                  go_wp2_with fail
                  exact ⟨HEnd.out _ _ HSt.out hOd, by have := HMs.out; simp [intOf] <;> omega⟩
                · have e2 : decide (L < 0) = false := by simpa using hl
                  by_cases hq : (f : Int) < L
                  · have e3 : decide ((f : Int) < L) = true := by simpa using hq
                    rw [if_pos ⟨hyz, .inr hq⟩] at hSt
                    have HSt := hid_mk hSt
                    clear hyz hSt
                    go_wp2_with (go_at_call 73; refine calls_same HN2.out ?_)
                    refine wp_region_held_drew (S := fun w' => w'.cell? ⟨s 0, 0, none⟩ = some (.slice (some ⟨s 1, 0, none⟩) M cw) ∧ w'.cell? ⟨s 1, f, none⟩ = some (.int .i64 y)) (by kernel_rfl) ?hS41 (fun hHeld => ?rest41)
                    case hS41 => exact ⟨c0', d0⟩
                    refine wpAnyH_take (i := 0) (v := ?v42) rfl (by kernel_rfl) (by kernel_rfl) (by kernel_rfl) (fun _ _ _ h => h) (Or.inl ⟨by rfl, ?hy42⟩) (by assumption) ?rest42
                    case hy42 => (intro w hSw; (try dsimp only at hSw); simp only [List.getElem_toArray, List.getElem_cons_zero, List.getElem_cons_succ]; go_simp; (try with_reducible rfl))
                    (try simp only [Act.put, List.getElem_toArray, List.getElem_cons_zero, List.getElem_cons_succ, List.setIfInBounds_toArray, List.set_cons_zero, List.set_cons_succ])
                    refine wpAnyH_take (i := 1) (v := ?v43) rfl (by kernel_rfl) (by kernel_rfl) (by kernel_rfl) (fun _ _ _ h => h) (Or.inl ⟨by rfl, ?hy43⟩) (by assumption) ?rest43
                    case hy43 => (intro w hSw; (try dsimp only at hSw); simp only [List.getElem_toArray, List.getElem_cons_zero, List.getElem_cons_succ]; go_simp; (try with_reducible rfl))
                    (try simp only [Act.put, List.getElem_toArray, List.getElem_cons_zero, List.getElem_cons_succ, List.setIfInBounds_toArray, List.set_cons_zero, List.set_cons_succ])
                    refine wpAnyH_take (i := 2) (v := ?v44) rfl (by kernel_rfl) (by kernel_rfl) (by kernel_rfl) (fun _ _ _ h => h) (Or.inl ⟨by rfl, ?hy44⟩) (by assumption) ?rest44
                    case hy44 => (intro w hSw; (try dsimp only at hSw); simp only [List.getElem_toArray, List.getElem_cons_zero, List.getElem_cons_succ]; go_simp; (try with_reducible rfl))
                    (try simp only [Act.put, List.getElem_toArray, List.getElem_cons_zero, List.getElem_cons_succ, List.setIfInBounds_toArray, List.set_cons_zero, List.set_cons_succ])
                    refine wpAnyH_take (i := 3) (v := ?v45) rfl (by kernel_rfl) (by kernel_rfl) (by kernel_rfl) (fun _ _ _ h => h) (Or.inl ⟨by rfl, ?hy45⟩) (by assumption) ?rest45
                    case hy45 => (intro w hSw; (try dsimp only at hSw); simp only [List.getElem_toArray, List.getElem_cons_zero, List.getElem_cons_succ]; go_simp; (try with_reducible rfl))
                    (try simp only [Act.put, List.getElem_toArray, List.getElem_cons_zero, List.getElem_cons_succ, List.setIfInBounds_toArray, List.set_cons_zero, List.set_cons_succ])
                    refine wpAnyH_take (i := 4) (v := ?v46) rfl (by kernel_rfl) (by kernel_rfl) (by kernel_rfl) (fun _ _ _ h => h) (Or.inl ⟨by rfl, ?hy46⟩) (by assumption) ?rest46
                    case hy46 => (intro w hSw; (try dsimp only at hSw); simp only [List.getElem_toArray, List.getElem_cons_zero, List.getElem_cons_succ]; go_simp; (try with_reducible rfl))
                    (try simp only [Act.put, List.getElem_toArray, List.getElem_cons_zero, List.getElem_cons_succ, List.setIfInBounds_toArray, List.set_cons_zero, List.set_cons_succ])
                    refine wpAnyH_take (i := 5) (v := ?v47) rfl (by kernel_rfl) (by kernel_rfl) (by kernel_rfl) (fun _ _ _ h => h) (Or.inl ⟨by rfl, ?hy47⟩) (by assumption) ?rest47
                    case hy47 => (intro w hSw; (try dsimp only at hSw); simp only [List.getElem_toArray, List.getElem_cons_zero, List.getElem_cons_succ]; go_simp; (try with_reducible rfl))
                    (try simp only [Act.put, List.getElem_toArray, List.getElem_cons_zero, List.getElem_cons_succ, List.setIfInBounds_toArray, List.set_cons_zero, List.set_cons_succ])
                    refine wpAnyH_take (i := 6) (v := ?v48) rfl (by kernel_rfl) (by kernel_rfl) (by kernel_rfl) (fun _ _ _ h => h) (Or.inl ⟨by rfl, ?hy48⟩) (by assumption) ?rest48
                    case hy48 => (intro w hSw; (try dsimp only at hSw); simp only [List.getElem_toArray, List.getElem_cons_zero, List.getElem_cons_succ]; go_simp; (try with_reducible rfl))
                    (try simp only [Act.put, List.getElem_toArray, List.getElem_cons_zero, List.getElem_cons_succ, List.setIfInBounds_toArray, List.set_cons_zero, List.set_cons_succ])
                    refine wpAnyH_take (i := 7) (v := ?v49) rfl (by kernel_rfl) (by kernel_rfl) (by kernel_rfl) (fun _ _ _ h => h) (Or.inl ⟨by rfl, ?hy49⟩) (by assumption) ?rest49
                    case hy49 => (intro w hSw; (try dsimp only at hSw); simp only [List.getElem_toArray, List.getElem_cons_zero, List.getElem_cons_succ]; go_simp; (try with_reducible rfl))
                    (try simp only [Act.put, List.getElem_toArray, List.getElem_cons_zero, List.getElem_cons_succ, List.setIfInBounds_toArray, List.set_cons_zero, List.set_cons_succ])
                    refine wpAnyH_ready (rs := [8]) (by kernel_rfl) (by simp) ?_
                    refine AllReadyH.cons rfl (fun KK hK => ?_) AllReadyH.nil
                    simp only [List.getElem_toArray, List.getElem_cons_zero, List.getElem_cons_succ]
                    go_simp
                    refine calls_same (HLk.out _) ?_
                    refine hK.out _ _ ?hS50 (fun hHeld2 => ?rest50)
                    case hS50 => exact hHeld
                    clear hK KK
                    (try clear hHeld)
                    have hHeld := hHeld2
                    clear hHeld2
                    (try simp only [Act.put, List.getElem_toArray, List.getElem_cons_zero, List.getElem_cons_succ, List.setIfInBounds_toArray, List.set_cons_zero, List.set_cons_succ])
                    refine wpAnyH_take (i := 9) (v := ?v51) rfl (by kernel_rfl) (by kernel_rfl) (by kernel_rfl) (fun _ _ _ h => h) (Or.inl ⟨by rfl, ?hy51⟩) (by assumption) ?rest51
                    case hy51 => (intro w hSw; (try dsimp only at hSw); simp only [List.getElem_toArray, List.getElem_cons_zero, List.getElem_cons_succ]; go_simp; (try with_reducible rfl))
                    (try simp only [Act.put, List.getElem_toArray, List.getElem_cons_zero, List.getElem_cons_succ, List.setIfInBounds_toArray, List.set_cons_zero, List.set_cons_succ])
                    refine wpAnyH_take (i := 10) (v := ?v52) rfl (by kernel_rfl) (by kernel_rfl) (by kernel_rfl) (fun _ _ _ h => h) (Or.inl ⟨by rfl, ?hy52⟩) (by assumption) ?rest52
                    case hy52 => (intro w hSw; (try dsimp only at hSw); simp only [List.getElem_toArray, List.getElem_cons_zero, List.getElem_cons_succ]; go_simp; (try with_reducible rfl))
                    (try simp only [Act.put, List.getElem_toArray, List.getElem_cons_zero, List.getElem_cons_succ, List.setIfInBounds_toArray, List.set_cons_zero, List.set_cons_succ])
                    refine wpAnyH_take (i := 11) (v := ?v53) rfl (by kernel_rfl) (by kernel_rfl) (by kernel_rfl) (fun _ _ _ h => h) (Or.inl ⟨by rfl, ?hy53⟩) (by assumption) ?rest53
                    case hy53 => (intro w hSw; (try dsimp only at hSw); simp only [List.getElem_toArray, List.getElem_cons_zero, List.getElem_cons_succ]; go_simp; (try with_reducible rfl))
                    (try simp only [Act.put, List.getElem_toArray, List.getElem_cons_zero, List.getElem_cons_succ, List.setIfInBounds_toArray, List.set_cons_zero, List.set_cons_succ])
                    refine wpAnyH_take (i := 12) (v := ?v54) rfl (by kernel_rfl) (by kernel_rfl) (by kernel_rfl) (fun _ _ _ h => h) (Or.inl ⟨by rfl, ?hy54⟩) (by assumption) ?rest54
                    case hy54 => (intro w hSw; (try dsimp only at hSw); simp only [List.getElem_toArray, List.getElem_cons_zero, List.getElem_cons_succ]; go_simp; (try with_reducible rfl))
                    (try simp only [Act.put, List.getElem_toArray, List.getElem_cons_zero, List.getElem_cons_succ, List.setIfInBounds_toArray, List.set_cons_zero, List.set_cons_succ])
                    refine wpAnyH_take (i := 13) (v := ?v55) rfl (by kernel_rfl) (by kernel_rfl) (by kernel_rfl) (fun _ _ _ h => h) (Or.inl ⟨by rfl, ?hy55⟩) (by assumption) ?rest55
                    case hy55 => (intro w hSw; (try dsimp only at hSw); simp only [List.getElem_toArray, List.getElem_cons_zero, List.getElem_cons_succ]; go_simp; (try with_reducible rfl))
                    (try simp only [Act.put, List.getElem_toArray, List.getElem_cons_zero, List.getElem_cons_succ, List.setIfInBounds_toArray, List.set_cons_zero, List.set_cons_succ])
                    refine wpAnyH_take (i := 14) (v := ?v56) rfl (by kernel_rfl) (by kernel_rfl) (by kernel_rfl) (fun _ _ _ h => h) (Or.inl ⟨by rfl, ?hy56⟩) (by assumption) ?rest56
                    case hy56 => (intro w hSw; (try dsimp only at hSw); simp only [List.getElem_toArray, List.getElem_cons_zero, List.getElem_cons_succ]; go_simp; (try with_reducible rfl))
                    (try simp only [Act.put, List.getElem_toArray, List.getElem_cons_zero, List.getElem_cons_succ, List.setIfInBounds_toArray, List.set_cons_zero, List.set_cons_succ])
                    refine wpAnyH_take (i := 15) (v := ?v57) rfl (by kernel_rfl) (by kernel_rfl) (by kernel_rfl) (fun _ _ _ h => h) (Or.inl ⟨by rfl, ?hy57⟩) (by assumption) ?rest57
                    case hy57 => (intro w hSw; (try dsimp only at hSw); simp only [List.getElem_toArray, List.getElem_cons_zero, List.getElem_cons_succ]; go_simp; (try with_reducible rfl))
                    (try simp only [Act.put, List.getElem_toArray, List.getElem_cons_zero, List.getElem_cons_succ, List.setIfInBounds_toArray, List.set_cons_zero, List.set_cons_succ])
                    refine wpAnyH_take (i := 16) (v := ?v58) rfl (by kernel_rfl) (by kernel_rfl) (by kernel_rfl) (fun _ _ _ h => h) (Or.inl ⟨by rfl, ?hy58⟩) (by assumption) ?rest58
                    case hy58 => (intro w hSw; (try dsimp only at hSw); simp only [List.getElem_toArray, List.getElem_cons_zero, List.getElem_cons_succ]; go_simp; (try with_reducible rfl))
                    (try simp only [Act.put, List.getElem_toArray, List.getElem_cons_zero, List.getElem_cons_succ, List.setIfInBounds_toArray, List.set_cons_zero, List.set_cons_succ])
                    refine wpAnyH_take (i := 17) (v := ?v59) rfl (by kernel_rfl) (by kernel_rfl) (by kernel_rfl) (fun _ _ _ h => h) (Or.inl ⟨by rfl, ?hy59⟩) (by assumption) ?rest59
                    case hy59 => (intro w hSw; (try dsimp only at hSw); simp only [List.getElem_toArray, List.getElem_cons_zero, List.getElem_cons_succ]; go_simp; (try with_reducible rfl))
                    (try simp only [Act.put, List.getElem_toArray, List.getElem_cons_zero, List.getElem_cons_succ, List.setIfInBounds_toArray, List.set_cons_zero, List.set_cons_succ])
                    refine wpAnyH_take (i := 18) (v := ?v60) rfl (by kernel_rfl) (by kernel_rfl) (by kernel_rfl) (fun _ _ _ h => h) (Or.inl ⟨by rfl, ?hy60⟩) (by assumption) ?rest60
                    case hy60 => (intro w hSw; (try dsimp only at hSw); simp only [List.getElem_toArray, List.getElem_cons_zero, List.getElem_cons_succ]; go_simp; (try with_reducible rfl))
                    (try simp only [Act.put, List.getElem_toArray, List.getElem_cons_zero, List.getElem_cons_succ, List.setIfInBounds_toArray, List.set_cons_zero, List.set_cons_succ])
                    refine wpAnyH_done (by kernel_rfl) ?_ _
                    clear hHeld
                    have hOd := hO.drew
                    clear hO
                    go_wp2_with fail
                    exact ⟨HEnd.out _ _ HSt.out hOd, by have := HMs.out; simp [intOf] <;> omega⟩
                  · have e3 : decide ((f : Int) < L) = false := by simpa using hq
                    rw [if_neg (fun z => z.2.elim hl hq)] at hSt
                    have HSt := hid_mk hSt
                    clear hyz hSt
                    go_wp2_with (go_at_call 73; refine calls_same HN2.out ?_)
                    refine wp_region_held_drew (S := fun w' => w'.cell? ⟨s 0, 0, none⟩ = some (.slice (some ⟨s 1, 0, none⟩) M cw) ∧ w'.cell? ⟨s 1, f, none⟩ = some (.int .i64 y)) (by kernel_rfl) ?hS61 (fun hHeld => ?rest61)
                    case hS61 => exact ⟨c0', d0⟩
                    refine wpAnyH_take (i := 0) (v := ?v62) rfl (by kernel_rfl) (by kernel_rfl) (by kernel_rfl) (fun _ _ _ h => h) (Or.inl ⟨by rfl, ?hy62⟩) (by assumption) ?rest62
                    case hy62 => (intro w hSw; (try dsimp only at hSw); simp only [List.getElem_toArray, List.getElem_cons_zero, List.getElem_cons_succ]; go_simp; (try with_reducible rfl))
                    (try simp only [Act.put, List.getElem_toArray, List.getElem_cons_zero, List.getElem_cons_succ, List.setIfInBounds_toArray, List.set_cons_zero, List.set_cons_succ])
                    refine wpAnyH_take (i := 1) (v := ?v63) rfl (by kernel_rfl) (by kernel_rfl) (by kernel_rfl) (fun _ _ _ h => h) (Or.inl ⟨by rfl, ?hy63⟩) (by assumption) ?rest63
                    case hy63 => (intro w hSw; (try dsimp only at hSw); simp only [List.getElem_toArray, List.getElem_cons_zero, List.getElem_cons_succ]; go_simp; (try with_reducible rfl))
                    (try simp only [Act.put, List.getElem_toArray, List.getElem_cons_zero, List.getElem_cons_succ, List.setIfInBounds_toArray, List.set_cons_zero, List.set_cons_succ])
                    refine wpAnyH_take (i := 2) (v := ?v64) rfl (by kernel_rfl) (by kernel_rfl) (by kernel_rfl) (fun _ _ _ h => h) (Or.inl ⟨by rfl, ?hy64⟩) (by assumption) ?rest64
                    case hy64 => (intro w hSw; (try dsimp only at hSw); simp only [List.getElem_toArray, List.getElem_cons_zero, List.getElem_cons_succ]; go_simp; (try with_reducible rfl))
                    (try simp only [Act.put, List.getElem_toArray, List.getElem_cons_zero, List.getElem_cons_succ, List.setIfInBounds_toArray, List.set_cons_zero, List.set_cons_succ])
                    refine wpAnyH_take (i := 3) (v := ?v65) rfl (by kernel_rfl) (by kernel_rfl) (by kernel_rfl) (fun _ _ _ h => h) (Or.inl ⟨by rfl, ?hy65⟩) (by assumption) ?rest65
                    case hy65 => (intro w hSw; (try dsimp only at hSw); simp only [List.getElem_toArray, List.getElem_cons_zero, List.getElem_cons_succ]; go_simp; (try with_reducible rfl))
                    (try simp only [Act.put, List.getElem_toArray, List.getElem_cons_zero, List.getElem_cons_succ, List.setIfInBounds_toArray, List.set_cons_zero, List.set_cons_succ])
                    refine wpAnyH_take (i := 4) (v := ?v66) rfl (by kernel_rfl) (by kernel_rfl) (by kernel_rfl) (fun _ _ _ h => h) (Or.inl ⟨by rfl, ?hy66⟩) (by assumption) ?rest66
                    case hy66 => (intro w hSw; (try dsimp only at hSw); simp only [List.getElem_toArray, List.getElem_cons_zero, List.getElem_cons_succ]; go_simp; (try with_reducible rfl))
                    (try simp only [Act.put, List.getElem_toArray, List.getElem_cons_zero, List.getElem_cons_succ, List.setIfInBounds_toArray, List.set_cons_zero, List.set_cons_succ])
                    refine wpAnyH_take (i := 5) (v := ?v67) rfl (by kernel_rfl) (by kernel_rfl) (by kernel_rfl) (fun _ _ _ h => h) (Or.inl ⟨by rfl, ?hy67⟩) (by assumption) ?rest67
                    case hy67 => (intro w hSw; (try dsimp only at hSw); simp only [List.getElem_toArray, List.getElem_cons_zero, List.getElem_cons_succ]; go_simp; (try with_reducible rfl))
                    (try simp only [Act.put, List.getElem_toArray, List.getElem_cons_zero, List.getElem_cons_succ, List.setIfInBounds_toArray, List.set_cons_zero, List.set_cons_succ])
                    refine wpAnyH_take (i := 6) (v := ?v68) rfl (by kernel_rfl) (by kernel_rfl) (by kernel_rfl) (fun _ _ _ h => h) (Or.inl ⟨by rfl, ?hy68⟩) (by assumption) ?rest68
                    case hy68 => (intro w hSw; (try dsimp only at hSw); simp only [List.getElem_toArray, List.getElem_cons_zero, List.getElem_cons_succ]; go_simp; (try with_reducible rfl))
                    (try simp only [Act.put, List.getElem_toArray, List.getElem_cons_zero, List.getElem_cons_succ, List.setIfInBounds_toArray, List.set_cons_zero, List.set_cons_succ])
                    refine wpAnyH_take (i := 7) (v := ?v69) rfl (by kernel_rfl) (by kernel_rfl) (by kernel_rfl) (fun _ _ _ h => h) (Or.inl ⟨by rfl, ?hy69⟩) (by assumption) ?rest69
                    case hy69 => (intro w hSw; (try dsimp only at hSw); simp only [List.getElem_toArray, List.getElem_cons_zero, List.getElem_cons_succ]; go_simp; (try with_reducible rfl))
                    (try simp only [Act.put, List.getElem_toArray, List.getElem_cons_zero, List.getElem_cons_succ, List.setIfInBounds_toArray, List.set_cons_zero, List.set_cons_succ])
                    refine wpAnyH_ready (rs := [8]) (by kernel_rfl) (by simp) ?_
                    refine AllReadyH.cons rfl (fun KK hK => ?_) AllReadyH.nil
                    simp only [List.getElem_toArray, List.getElem_cons_zero, List.getElem_cons_succ]
                    go_simp
                    refine calls_same (HLk.out _) ?_
                    refine hK.out _ _ ?hS70 (fun hHeld2 => ?rest70)
                    case hS70 => exact hHeld
                    clear hK KK
                    (try clear hHeld)
                    have hHeld := hHeld2
                    clear hHeld2
                    (try simp only [Act.put, List.getElem_toArray, List.getElem_cons_zero, List.getElem_cons_succ, List.setIfInBounds_toArray, List.set_cons_zero, List.set_cons_succ])
                    refine wpAnyH_take (i := 9) (v := ?v71) rfl (by kernel_rfl) (by kernel_rfl) (by kernel_rfl) (fun _ _ _ h => h) (Or.inl ⟨by rfl, ?hy71⟩) (by assumption) ?rest71
                    case hy71 => (intro w hSw; (try dsimp only at hSw); simp only [List.getElem_toArray, List.getElem_cons_zero, List.getElem_cons_succ]; go_simp; (try with_reducible rfl))
                    (try simp only [Act.put, List.getElem_toArray, List.getElem_cons_zero, List.getElem_cons_succ, List.setIfInBounds_toArray, List.set_cons_zero, List.set_cons_succ])
                    refine wpAnyH_take (i := 10) (v := ?v72) rfl (by kernel_rfl) (by kernel_rfl) (by kernel_rfl) (fun _ _ _ h => h) (Or.inl ⟨by rfl, ?hy72⟩) (by assumption) ?rest72
                    case hy72 => (intro w hSw; (try dsimp only at hSw); simp only [List.getElem_toArray, List.getElem_cons_zero, List.getElem_cons_succ]; go_simp; (try with_reducible rfl))
                    (try simp only [Act.put, List.getElem_toArray, List.getElem_cons_zero, List.getElem_cons_succ, List.setIfInBounds_toArray, List.set_cons_zero, List.set_cons_succ])
                    refine wpAnyH_take (i := 11) (v := ?v73) rfl (by kernel_rfl) (by kernel_rfl) (by kernel_rfl) (fun _ _ _ h => h) (Or.inl ⟨by rfl, ?hy73⟩) (by assumption) ?rest73
                    case hy73 => (intro w hSw; (try dsimp only at hSw); simp only [List.getElem_toArray, List.getElem_cons_zero, List.getElem_cons_succ]; go_simp; (try with_reducible rfl))
                    (try simp only [Act.put, List.getElem_toArray, List.getElem_cons_zero, List.getElem_cons_succ, List.setIfInBounds_toArray, List.set_cons_zero, List.set_cons_succ])
                    refine wpAnyH_take (i := 12) (v := ?v74) rfl (by kernel_rfl) (by kernel_rfl) (by kernel_rfl) (fun _ _ _ h => h) (Or.inl ⟨by rfl, ?hy74⟩) (by assumption) ?rest74
                    case hy74 => (intro w hSw; (try dsimp only at hSw); simp only [List.getElem_toArray, List.getElem_cons_zero, List.getElem_cons_succ]; go_simp; (try with_reducible rfl))
                    (try simp only [Act.put, List.getElem_toArray, List.getElem_cons_zero, List.getElem_cons_succ, List.setIfInBounds_toArray, List.set_cons_zero, List.set_cons_succ])
                    refine wpAnyH_take (i := 13) (v := ?v75) rfl (by kernel_rfl) (by kernel_rfl) (by kernel_rfl) (fun _ _ _ h => h) (Or.inl ⟨by rfl, ?hy75⟩) (by assumption) ?rest75
                    case hy75 => (intro w hSw; (try dsimp only at hSw); simp only [List.getElem_toArray, List.getElem_cons_zero, List.getElem_cons_succ]; go_simp; (try with_reducible rfl))
                    (try simp only [Act.put, List.getElem_toArray, List.getElem_cons_zero, List.getElem_cons_succ, List.setIfInBounds_toArray, List.set_cons_zero, List.set_cons_succ])
                    refine wpAnyH_take (i := 14) (v := ?v76) rfl (by kernel_rfl) (by kernel_rfl) (by kernel_rfl) (fun _ _ _ h => h) (Or.inl ⟨by rfl, ?hy76⟩) (by assumption) ?rest76
                    case hy76 => (intro w hSw; (try dsimp only at hSw); simp only [List.getElem_toArray, List.getElem_cons_zero, List.getElem_cons_succ]; go_simp; (try with_reducible rfl))
                    (try simp only [Act.put, List.getElem_toArray, List.getElem_cons_zero, List.getElem_cons_succ, List.setIfInBounds_toArray, List.set_cons_zero, List.set_cons_succ])
                    refine wpAnyH_take (i := 15) (v := ?v77) rfl (by kernel_rfl) (by kernel_rfl) (by kernel_rfl) (fun _ _ _ h => h) (Or.inl ⟨by rfl, ?hy77⟩) (by assumption) ?rest77
                    case hy77 => (intro w hSw; (try dsimp only at hSw); simp only [List.getElem_toArray, List.getElem_cons_zero, List.getElem_cons_succ]; go_simp; (try with_reducible rfl))
                    (try simp only [Act.put, List.getElem_toArray, List.getElem_cons_zero, List.getElem_cons_succ, List.setIfInBounds_toArray, List.set_cons_zero, List.set_cons_succ])
                    refine wpAnyH_take (i := 16) (v := ?v78) rfl (by kernel_rfl) (by kernel_rfl) (by kernel_rfl) (fun _ _ _ h => h) (Or.inl ⟨by rfl, ?hy78⟩) (by assumption) ?rest78
                    case hy78 => (intro w hSw; (try dsimp only at hSw); simp only [List.getElem_toArray, List.getElem_cons_zero, List.getElem_cons_succ]; go_simp; (try with_reducible rfl))
                    (try simp only [Act.put, List.getElem_toArray, List.getElem_cons_zero, List.getElem_cons_succ, List.setIfInBounds_toArray, List.set_cons_zero, List.set_cons_succ])
                    refine wpAnyH_take (i := 17) (v := ?v79) rfl (by kernel_rfl) (by kernel_rfl) (by kernel_rfl) (fun _ _ _ h => h) (Or.inl ⟨by rfl, ?hy79⟩) (by assumption) ?rest79
                    case hy79 => (intro w hSw; (try dsimp only at hSw); simp only [List.getElem_toArray, List.getElem_cons_zero, List.getElem_cons_succ]; go_simp; (try with_reducible rfl))
                    (try simp only [Act.put, List.getElem_toArray, List.getElem_cons_zero, List.getElem_cons_succ, List.setIfInBounds_toArray, List.set_cons_zero, List.set_cons_succ])
                    refine wpAnyH_take (i := 18) (v := ?v80) rfl (by kernel_rfl) (by kernel_rfl) (by kernel_rfl) (fun _ _ _ h => h) (Or.inl ⟨by rfl, ?hy80⟩) (by assumption) ?rest80
                    case hy80 => (intro w hSw; (try dsimp only at hSw); simp only [List.getElem_toArray, List.getElem_cons_zero, List.getElem_cons_succ]; go_simp; (try with_reducible rfl))
                    (try simp only [Act.put, List.getElem_toArray, List.getElem_cons_zero, List.getElem_cons_succ, List.setIfInBounds_toArray, List.set_cons_zero, List.set_cons_succ])
                    refine wpAnyH_done (by kernel_rfl) ?_ _
                    clear hHeld
                    have hOd := hO.drew
                    clear hO
                    go_wp2_with fail
                    exact ⟨HEnd.out _ _ HSt.out hOd, by have := HMs.out; simp [intOf] <;> omega⟩
        · have e : c = 8 := by omega
          subst e
          clear hO hR
          go_wp2
          go_ret
          exact ⟨rfl, HO.out⟩
end
end Go.Proofs.YtjbbkeoolodeaaaGreatDoor
