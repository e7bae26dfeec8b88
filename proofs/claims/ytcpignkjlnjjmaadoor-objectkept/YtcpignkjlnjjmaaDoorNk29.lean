import Derived.Test.YtcpignkjlnjjmaaDoorNk28
namespace Go.Proofs.YtcpignkjlnjjmaaDoor
open Go.RowKit
set_option linter.unusedVariables false
set_option linter.unusedSimpArgs false

theorem SlI.mono {w : World} {b b' : Nat} {p : Option Addr} {L : List Int} (h : SlI w b p L) (hb : b ≤ b') : SlI w b' p L := by
  refine ⟨h.1, ?_⟩
  rcases h.2 with h | ⟨g, off, h1, h2, h3⟩
  · exact .inl h
  · exact .inr ⟨g, off, h1, by omega, h3⟩
/-- what Get tells of an object's word: a value's kind and number, a fault's error and place -/
def gtQ (n : Nat) (st : Sp) (q : Nat) (i : Int) : Int × Int × Int × Int :=
  if opE (rawOf n st) 2 q = 0 then
    if fieldB (roleV (st.O q).1 (st.O q).2.1 i) = true then
      if rgB (rawOf n st) q (st.O q) (roleV (st.O q).1 (st.O q).2.1 i) (peekV n st.W (q + i)) = true then (peekV n st.W (q + i) % 8 + 1, peekV n st.W (q + i) / 8, 0, 0) else (0, 0, 21, q + i)
    else (0, 0, 32, 0)
  else (0, 0, opE (rawOf n st) 2 q, opA (rawOf n st) 2 q)
theorem Get_gt {w : World} {lo hi hb n cap q : Nat} {s : Nat → Nat} {st : Sp} (h : SpAt w lo hi s n cap st) (hH : w.cell? ⟨hb, 0, none⟩ = some (.pointer (some ⟨s 14, 0, none⟩))) (ha : hasB (st.O q) = true) (i : Int) {y1 y2 y3 y4 : Int} (hy : gtQ n st q i = (y1, y2, y3, y4)) :
    Calls Tryd.prog 6 #[.pointer (some ⟨hb, 0, none⟩), .agg #[.int .i64 2, .int .i64 (q : Int)], .int .i64 i] w fun e w' => e = .returned (.tuple #[.agg #[.int .i64 y1, .int .i64 y2], .agg #[.int .i64 y3, .int .i64 y4]]) ∧ Out 0 0 w w' := by
  obtain ⟨hr, hi'⟩ := h
  have hM := raw_at (n := n) ha
  unfold gtQ at hy
  generalize st.O q = b at *
  obtain ⟨t1, t2, t3, t4⟩ := b
  by_cases h0 : opE (rawOf n st) 2 q = 0
  · rw [if_pos h0] at hy
    cases hf : fieldB (roleV t1 t2 i)
    · rw [if_neg (by rw [hf]; simp)] at hy
      cases hy
      exact Get_field hr (arenaO hi') hr.tab hH 2 q i hM h0 hf
    · rw [if_pos hf] at hy
      cases hg : rgB (rawOf n st) q (t1, t2, t3, t4) (roleV t1 t2 i) (peekV n st.W (q + i))
      · rw [if_neg (by rw [hg]; simp)] at hy
        cases hy
        exact Get_wrong hr (arenaO hi') hr.tab hH 2 q i hM h0 hr.n2 hf hg
      · rw [if_pos hg] at hy
        cases hy
        exact Get_yes hr (arenaO hi') hr.tab hH 2 q i hM h0 hr.n2 hf hg
  · rw [if_neg h0] at hy
    cases hy
    exact Get_open hr (arenaO hi') hr.tab hH 2 q i h0
/-- an object's word is turned -/
def tnS (n : Nat) (st : Sp) (q i : Nat) (v : Int) : Sp := wSpO st (pokeW n st.W ((q : Int) + (i : Int)) v)
theorem tn_head {n q : Nat} {st : Sp} {v : Int} (hR : Rt n st) (hi : Inv n st) (ha : hasB (st.O q) = true) (hv : v ≠ st.W q) : opE (rawOf n (tnS n st q 0 v)) 2 q = 21 ∧ opA (rawOf n (tnS n st q 0 v)) 2 q = q := by
  have hq := (hi.objs q ha).1
  have hM : (rawOf n (tnS n st q 0 v)).M (q : Int) = some (st.O q) := raw_at (n := n) (st := tnS n st q 0 v) ha
  have hW : (rawOf n (tnS n st q 0 v)).W ((q : Int)).toNat = v := by
    show pokeW n st.W ((q : Int) + ((0 : Nat) : Int)) v ((q : Int)).toNat = v
    rw [show ((q : Int) + ((0 : Nat) : Int)) = (q : Int) from by omega, show ((q : Int)).toNat = q from by omega]
    exact poke_at hq
  have hne : ¬ v = makeV q (st.O q).1 (st.O q).2.1 := by rw [← hR.2 q ha]; exact hv
  unfold opE opA chkE chkA
  rw [if_pos ⟨rfl, by rw [hM]; simp⟩, if_pos ⟨rfl, by rw [hM]; simp⟩, hM]
  simp only [hW]
  rw [if_neg hne, if_neg hne]
  exact ⟨rfl, rfl⟩
theorem tn_get {n q : Nat} {st : Sp} {v : Int} (hR : Rt n st) (hi : Inv n st) (ha : hasB (st.O q) = true) (hv : v ≠ st.W q) (i : Int) : gtQ n (tnS n st q 0 v) q i = (0, 0, 21, (q : Int)) := by
  obtain ⟨h1, h2⟩ := tn_head hR hi ha hv
  unfold gtQ
  rw [h1, if_neg (by decide), h2]
theorem tn_word {n q i : Nat} {st : Sp} {v : Int} {x1 x2 x3 x4 y1 y2 y3 y4 : Int} (hR : Rt n st) (hi : Inv n st) (ha : hasB (st.O q) = true) (h1 : 1 ≤ i) (h2 : (i : Int) < (st.O q).2.1) (hv : v ≠ st.W (q + i)) (hx : gtQ n st q i = (x1, x2, x3, x4)) (hy : gtQ n (tnS n st q i v) q i = (y1, y2, y3, y4)) :
    (x3 = 32 ∧ y3 = 32) ∨ (x3 ≠ 32 ∧ rightB (rawOf n (tnS n st q i v)) q i v = true ∧ y3 = 0 ∧ validB_v y1 y2 = true ∧ y2 * 8 + y1 - 1 = v ∧ ¬ (y1 = x1 ∧ y2 = x2)) ∨ (x3 ≠ 32 ∧ rightB (rawOf n (tnS n st q i v)) q i v = false ∧ y3 = 21 ∧ y4 = q + i) := by
  have hM := raw_at (n := n) ha
  have hM' : (rawOf n (tnS n st q i v)).M (q : Int) = some (st.O q) := hM
  have o1 := op_right hR ha
  have hq := arenaO hi q _ hM
  have hin : q + i < 64 * n := by omega
  have hW : ∀ W : Nat → Int, peekV n W ((q : Int) + (i : Int)) = W (q + i) := fun W => by
    unfold peekV inB
    rw [if_pos (by simp; omega), show ((q : Int) + (i : Int)).toNat = q + i from by omega]
  have hW' : peekV n (tnS n st q i v).W ((q : Int) + (i : Int)) = v := by
    rw [hW]
    show pokeW n st.W ((q : Int) + (i : Int)) v (q + i) = v
    rw [show (q : Int) + (i : Int) = ((q + i : Nat) : Int) from by omega]
    exact poke_at hin
  have o2 : opE (rawOf n (tnS n st q i v)) 2 q = 0 := op_right (rt_room hi hR ha fun j hj => poke_far (by omega)) ha
  unfold gtQ at hx hy
  rw [if_pos o1, hW] at hx
  rw [if_pos o2, hW'] at hy
  have hO : (tnS n st q i v).O q = st.O q := rfl
  rw [hO] at hy
  have hg : ∀ x, rgB (rawOf n (tnS n st q i v)) q (st.O q) (roleV (st.O q).1 (st.O q).2.1 i) x = rgB (rawOf n st) q (st.O q) (roleV (st.O q).1 (st.O q).2.1 i) x := fun x => rfl
  have hrb : rightB (rawOf n (tnS n st q i v)) q i v = rgB (rawOf n st) q (st.O q) (roleV (st.O q).1 (st.O q).2.1 i) v := by
    unfold rightB
    rw [hM']
    rfl
  rw [hrb]
  rw [hg] at hy
  generalize hrole : roleV (st.O q).1 (st.O q).2.1 (i : Int) = role at *
  cases hf : fieldB role
  · rw [if_neg (by rw [hf]; simp)] at hx hy
    cases hx; cases hy
    exact .inl ⟨rfl, rfl⟩
  · right
    rw [if_pos hf] at hx hy
    have hx3 : x3 ≠ 32 := by
      cases hr : rgB (rawOf n st) q (st.O q) role (st.W (q + i))
      · rw [if_neg (by rw [hr]; simp)] at hx; cases hx; decide
      · rw [if_pos hr] at hx; cases hx; decide
    cases hr : rgB (rawOf n st) q (st.O q) role v
    · right
      rw [if_neg (by rw [hr]; simp)] at hy
      cases hy
      exact ⟨hx3, rfl, rfl, rfl⟩
    · left
      rw [if_pos hr] at hy
      cases hy
      refine ⟨hx3, rfl, rfl, rg_valid hf hr, by omega, ?_⟩
      rintro ⟨c1, c2⟩
      cases hr2 : rgB (rawOf n st) q (st.O q) role (st.W (q + i))
      · rw [if_neg (by rw [hr2]; simp)] at hx; cases hx; omega
      · rw [if_pos hr2] at hx; cases hx; omega
end Go.Proofs.YtcpignkjlnjjmaaDoor
namespace Go.Proofs.YtcpignkjlnjjmaaDoor
open Go.RowKit
set_option linter.unusedVariables false
set_option linter.unusedSimpArgs false

/-- may the value be set there? -/
def stB (n : Nat) (st : Sp) (q : Nat) (i xk xn : Int) : Bool := fieldB (roleV (st.O q).1 (st.O q).2.1 i) && validB_v xk xn && rgB (rawOf n st) q (st.O q) (roleV (st.O q).1 (st.O q).2.1 i) (xn * 8 + (xk - 1))
def stE (n : Nat) (st : Sp) (q : Nat) (i xk xn : Int) : Int := if stB n st q i xk xn then 0 else if fieldB (roleV (st.O q).1 (st.O q).2.1 i) then 33 else 32
def stS (n : Nat) (st : Sp) (q : Nat) (i xk xn : Int) : Sp := if stB n st q i xk xn then wSpO st (pokeW n st.W ((q : Int) + i) (xn * 8 + (xk - 1))) else st
theorem Set_st {w : World} {lo hi hb n cap q : Nat} {s : Nat → Nat} {st : Sp} (h : SpAt w lo hi s n cap st) (hR : Rt n st) (hH : w.cell? ⟨hb, 0, none⟩ = some (.pointer (some ⟨s 14, 0, none⟩))) (hout : hi ≤ hb) (ha : hasB (st.O q) = true) (i xk xn : Int) {e0 : Int} {st' : Sp} (he : stE n st q i xk xn = e0) (hs : stS n st q i xk xn = st') :
    Calls Tryd.prog 8 #[.pointer (some ⟨hb, 0, none⟩), .agg #[.int .i64 2, .int .i64 (q : Int)], .int .i64 i, .agg #[.int .i64 xk, .int .i64 xn]] w fun e w' => e = .returned (.agg #[.int .i64 e0, .int .i64 0]) ∧ SpAt w' lo hi s n cap st' ∧ Out lo hi w w' := by
  have hM := raw_at (n := n) ha
  have h0 := op_right hR ha
  subst he hs
  unfold stE stS stB
  generalize st.O q = b at *
  obtain ⟨t1, t2, t3, t4⟩ := b
  dsimp only
  cases hf : fieldB (roleV t1 t2 i)
  · simp only [Bool.false_and, Bool.false_eq_true, if_false]
    exact (Set_field h.1 (arenaO h.2) hH 2 q i xk xn hM h0 hf).mono fun e w' ⟨e1, e2⟩ => ⟨e1, h.quiet e2, e2.any lo hi⟩
  · cases hx : validB_v xk xn
    · simp only [Bool.and_false, Bool.false_and, Bool.false_eq_true, if_false, if_true]
      exact (Set_novalue h.1 (arenaO h.2) hH 2 q i xk xn hM h0 hf hx).mono fun e w' ⟨e1, e2⟩ => ⟨e1, h.quiet e2, e2.any lo hi⟩
    · cases hg : rgB (rawOf n st) q (t1, t2, t3, t4) (roleV t1 t2 i) (xn * 8 + (xk - 1))
      · simp only [Bool.and_false, Bool.false_eq_true, if_false, if_true]
        exact (Set_wrong h.1 (arenaO h.2) hH 2 q i xk xn hM h0 hf hx hg).mono fun e w' ⟨e1, e2⟩ => ⟨e1, h.quiet e2, e2.any lo hi⟩
      · simp only [Bool.and_self, if_true]
        exact Set_yesS h hH (.inr hout) 2 q i xk xn hM h0 hf hx hg
theorem st_facts {n q : Nat} {st : Sp} {i xk xn : Int} (h : stB n st q i xk xn = true) : ∃ j : Nat, i = j ∧ 1 ≤ j ∧ (j : Int) < (st.O q).2.1 ∧ validB_v xk xn = true ∧ rgB (rawOf n st) q (st.O q) (roleV (st.O q).1 (st.O q).2.1 i) (xn * 8 + (xk - 1)) = true := by
  unfold stB at h
  rw [Bool.and_eq_true, Bool.and_eq_true] at h
  obtain ⟨⟨h1, h2⟩, h3⟩ := h
  have := role_in h1
  exact ⟨i.toNat, by omega, by omega, by omega, h2, h3⟩
/-- what a Set leaves right -/
theorem st_right {n q : Nat} {st : Sp} {i xk xn : Int} (hi : Inv n st) (hR : Rt n st) (ha : hasB (st.O q) = true) : Rt n (stS n st q i xk xn) ∧ (stS n st q i xk xn).O = st.O := by
  unfold stS
  cases h : stB n st q i xk xn
  · exact ⟨by simpa using hR, by simp⟩
  · obtain ⟨j, rfl, j1, j2, _⟩ := st_facts h
    simp only [if_true]
    exact ⟨rt_room hi hR ha fun k hk => poke_far (by omega), rfl⟩
/-- a word that a Set has turned: it is the one that was named, it is right, and it is the value's -/
theorem st_word {n q k : Nat} {st : Sp} {i xk xn : Int} (hk : k < 64 * n) (ha : hasB (st.O q) = true) (hne : st.W k ≠ (stS n st q i xk xn).W k) :
    stE n st q i xk xn = 0 ∧ (k : Int) = (q : Int) + i ∧ rightB (rawOf n (stS n st q i xk xn)) q i ((stS n st q i xk xn).W k) = true ∧ validB_v xk xn = true ∧ (stS n st q i xk xn).W k = xn * 8 + xk - 1 := by
  unfold stS at hne ⊢
  unfold stE
  cases h : stB n st q i xk xn
  · rw [h] at hne; simp at hne
  · rw [h] at hne
    obtain ⟨j, rfl, j1, j2, j3, j4⟩ := st_facts h
    simp only [if_true] at hne ⊢
    have hkq : (k : Int) = (q : Int) + (j : Int) := by
      by_cases c : (k : Int) = (q : Int) + (j : Int)
      · exact c
      · exact absurd (poke_far (n := n) (W := st.W) (v := xn * 8 + (xk - 1)) c).symm hne
    have hW : (wSpO st (pokeW n st.W ((q : Int) + (j : Int)) (xn * 8 + (xk - 1)))).W k = xn * 8 + (xk - 1) := by
      show pokeW n st.W ((q : Int) + (j : Int)) (xn * 8 + (xk - 1)) k = _
      rw [← hkq]
      exact poke_at hk
    refine ⟨trivial, hkq, ?_, j3, by rw [hW]; omega⟩
    rw [hW]
    unfold rightB
    rw [show (rawOf n (wSpO st (pokeW n st.W ((q : Int) + (j : Int)) (xn * 8 + (xk - 1))))).M (q : Int) = some (st.O q) from raw_at (n := n) ha]
    exact j4
end Go.Proofs.YtcpignkjlnjjmaaDoor
namespace Go.Proofs.YtcpignkjlnjjmaaDoor
open Go.RowKit
set_option linter.unusedVariables false
set_option linter.unusedSimpArgs false

theorem gt_in {n q : Nat} {st : Sp} {i : Int} (hR : Rt n st) (ha : hasB (st.O q) = true) (hf : fieldB (roleV (st.O q).1 (st.O q).2.1 i) = true) {x : Int} (hx : peekV n st.W ((q : Int) + i) = x) : gtQ n st q i = if rgB (rawOf n st) q (st.O q) (roleV (st.O q).1 (st.O q).2.1 i) x = true then (x % 8 + 1, x / 8, 0, 0) else (0, 0, 21, q + i) := by
  unfold gtQ
  rw [if_pos (op_right hR ha), if_pos hf, hx]
theorem gt_out {n q : Nat} {st : Sp} {i : Int} (hR : Rt n st) (ha : hasB (st.O q) = true) (hf : fieldB (roleV (st.O q).1 (st.O q).2.1 i) = false) : gtQ n st q i = (0, 0, 32, 0) := by
  unfold gtQ
  rw [if_pos (op_right hR ha), if_neg (by rw [hf]; simp)]
/-- a value is told, or a fault: never both, never none -/
theorem gt_one {n q : Nat} {st : Sp} {i y1 y2 y3 y4 : Int} (hR : Rt n st) (ha : hasB (st.O q) = true) (h : gtQ n st q i = (y1, y2, y3, y4)) : (y3 = 0 ∧ 1 ≤ y1) ∨ (y3 ≠ 0 ∧ y1 = 0 ∧ y2 = 0) := by
  cases hf : fieldB (roleV (st.O q).1 (st.O q).2.1 i)
  · rw [gt_out hR ha hf] at h; cases h; right; decide
  · rw [gt_in hR ha hf rfl] at h
    split at h <;> cases h
    · left; omega
    · right; decide
/-- what was set is told, and all else as it was -/
theorem gt_set {n q q' : Nat} {st : Sp} {i xk xn a : Int} (hi : Inv n st) (hR : Rt n st) (ha : hasB (st.O q) = true) (ha' : hasB (st.O q') = true) :
    gtQ n (stS n st q i xk xn) q' a = if stB n st q i xk xn = true ∧ q' = q ∧ a = i then (xk, xn, 0, 0) else gtQ n st q' a := by
  have hr := (st_right (i := i) (xk := xk) (xn := xn) hi hR ha).1
  cases h : stB n st q i xk xn
  · rw [if_neg (by simp)]
    unfold stS
    rw [h]
    simp
  obtain ⟨j, rfl, j1, j2, j3, j4⟩ := st_facts h
  have hfi : fieldB (roleV (st.O q).1 (st.O q).2.1 (j : Int)) = true := by
    unfold stB at h
    rw [Bool.and_eq_true, Bool.and_eq_true] at h
    exact h.1.1
  unfold stS at hr ⊢
  rw [h] at hr ⊢
  simp only [if_true] at hr ⊢
  have hin := arenaO hi q _ (raw_at (n := n) ha)
  have hin' := arenaO hi q' _ (raw_at (n := n) ha')
  have hpk : ∀ (W : Nat → Int) (p : Nat), p < 64 * n → peekV n W (p : Int) = W p := fun W p hp => by
    unfold peekV inB
    rw [if_pos (by simp; omega), show ((p : Int)).toNat = p from by omega]
  by_cases hc : q' = q ∧ a = (j : Int)
  · obtain ⟨rfl, rfl⟩ := hc
    rw [if_pos ⟨trivial, rfl, rfl⟩]
    have hv : peekV n (wSpO st (pokeW n st.W ((q' : Int) + (j : Int)) (xn * 8 + (xk - 1)))).W ((q' : Int) + (j : Int)) = xn * 8 + (xk - 1) := by
      rw [show (q' : Int) + (j : Int) = ((q' + j : Nat) : Int) from by omega, hpk _ _ (by omega)]
      exact poke_at (by omega)
    rw [gt_in (st := wSpO st (pokeW n st.W ((q' : Int) + (j : Int)) (xn * 8 + (xk - 1)))) hr ha hfi hv]
    refine (if_pos j4).trans ?_
    have hv3 : 1 ≤ xk ∧ xk ≤ 8 := by
      unfold validB_v at j3
      simp only [decide_eq_true_eq] at j3
      omega
    rw [show (xn * 8 + (xk - 1)) % 8 + 1 = xk from by omega, show (xn * 8 + (xk - 1)) / 8 = xn from by omega]
  · rw [if_neg (by rintro ⟨_, h1, h2⟩; exact hc ⟨h1, h2⟩)]
    cases hf : fieldB (roleV (st.O q').1 (st.O q').2.1 a)
    · rw [gt_out (st := wSpO st _) hr ha' hf, gt_out hR ha' hf]
    · have hra := role_in hf
      obtain ⟨p, rfl⟩ : ∃ p : Nat, a = p := ⟨a.toNat, by omega⟩
      have hsame : pokeW n st.W ((q : Int) + (j : Int)) (xn * 8 + (xk - 1)) (q' + p) = st.W (q' + p) := by
        refine poke_far ?_
        by_cases e : q' = q
        · have : (p : Int) ≠ (j : Int) := fun e2 => hc ⟨e, e2⟩
          omega
        · have hz := fits_size (hi.objs q ha).2.1
          have hg := room_ge hz.2.2.1 hz.2.2.2
          have hz' := fits_size (hi.objs q' ha').2.1
          have hg' := room_ge hz'.2.2.1 hz'.2.2.2
          rcases obj_out hi ha ha' e with o | o
          · rcases obj_out hi ha' ha (Ne.symm e) with o' | o' <;> omega
          · omega
      have e1 : peekV n st.W ((q' : Int) + (p : Int)) = st.W (q' + p) := by
        rw [show (q' : Int) + (p : Int) = ((q' + p : Nat) : Int) from by omega]
        exact hpk _ _ (by omega)
      have e2 : peekV n (wSpO st (pokeW n st.W ((q : Int) + (j : Int)) (xn * 8 + (xk - 1)))).W ((q' : Int) + (p : Int)) = st.W (q' + p) := by
        rw [show (q' : Int) + (p : Int) = ((q' + p : Nat) : Int) from by omega, hpk _ _ (by omega)]
        exact hsame
      rw [gt_in (st := wSpO st (pokeW n st.W ((q : Int) + (j : Int)) (xn * 8 + (xk - 1)))) hr ha' hf e2, gt_in hR ha' hf e1]
      rfl
/-- a Set that goes well names one of the words 1 to 8 -/
theorem st_named {n q : Nat} {st : Sp} {i xk xn : Int} (h : stE n st q i xk xn = 0) : stB n st q i xk xn = true := by
  unfold stE at h
  split at h
  · assumption
  · split at h <;> simp at h
end Go.Proofs.YtcpignkjlnjjmaaDoor
namespace Go.Proofs.YtcpignkjlnjjmaaDoor
open Go.RowKit
set_option linter.unusedVariables false
set_option linter.unusedSimpArgs false

theorem nodup_snoc {l : List Nat} {a : Nat} (h : l.Nodup) (ha : a ∉ l) : (l ++ [a]).Nodup := by
  rw [List.nodup_append]
  exact ⟨h, by simp, fun x hx y hy e => by simp at hy; subst hy; subst e; exact ha hx⟩
theorem al_free {n a : Nat} {st : Sp} {k z t : Int} (hi : Inv n st) (hR : Rt n st) (hf : fitsB k z = true) (h : (alF n st k z t).2.1 = 0) (h1 : (alF n st k z t).1 = (a : Int)) : hasB (st.O a) = false := by
  rcases al_right (t := t) hi hR hf with ⟨_, e⟩ | ⟨b, fresh, _, e, i1, r1, h0, _⟩
  · rw [e] at h; simp at h
  · rw [e] at h1
    have : b = a := by dsimp only at h1; omega
    subst this
    exact h0
theorem kd_facts9 {j : Nat} (h : j < 8) : ∃ k nn z, kdL[j]? = some k ∧ k ≠ 4 ∧ sizeB k nn = true ∧ sizeV k nn = z ∧ fitsB k z = true ∧ 1 ≤ z ∧ z ≤ 9 ∧ (k = 3 ∧ nn = 3 ∨ k = 6 ∧ nn = 3 ∨ k = 11 ∧ nn = 3 ∨ nn = 0 ∧ (k == 3) = false ∧ (k == 6) = false ∧ (k == 11) = false) := by
  have h8 : j = 0 ∨ j = 1 ∨ j = 2 ∨ j = 3 ∨ j = 4 ∨ j = 5 ∨ j = 6 ∨ j = 7 := by omega
  rcases h8 with rfl | rfl | rfl | rfl | rfl | rfl | rfl | rfl
  · exact ⟨1, 0, _, rfl, by decide, by decide, rfl, by decide, by decide, by decide, by decide⟩
  · exact ⟨2, 0, _, rfl, by decide, by decide, rfl, by decide, by decide, by decide, by decide⟩
  · exact ⟨3, 3, _, rfl, by decide, by decide, rfl, by decide, by decide, by decide, by decide⟩
  · exact ⟨8, 0, _, rfl, by decide, by decide, rfl, by decide, by decide, by decide, by decide⟩
  · exact ⟨9, 0, _, rfl, by decide, by decide, rfl, by decide, by decide, by decide, by decide⟩
  · exact ⟨6, 3, _, rfl, by decide, by decide, rfl, by decide, by decide, by decide, by decide⟩
  · exact ⟨7, 0, _, rfl, by decide, by decide, rfl, by decide, by decide, by decide, by decide⟩
  · exact ⟨11, 3, _, rfl, by decide, by decide, rfl, by decide, by decide, by decide, by decide⟩
set_option maxRecDepth 100000 in
set_option maxHeartbeats 4000000 in
theorem made_sz {w : World} (hT : Tab w) {p : Option Addr} {L : List Int} {cap0 : Nat} (hL : SlI w w.heap.size p L) :
    Calls Tryd.prog 5 #[.slice p L.length cap0] w fun e w' => ∃ hi s cap hb st l v, e = .returned (.tuple #[.pointer (some ⟨hb, 0, none⟩), v, .bool true]) ∧ Md w w.heap.size hi s cap hb v w' st l ∧ hi ≤ hb ∧ l.length ≤ 12 ∧ (∀ a ∈ l, (st.O a).2.1 ≤ 9) ∧ l.Nodup := by
  have HN := hid_mk (NewS hT 4 (by omega) (by omega))
  rw [show ((4 : Nat) : Int) = 4 from rfl] at HN
  have HL := hid_mk hL
  clear hT hL
  go_enter Tryd.func5, Tryd.ntmps5
  go_wp2_with fail
  refine HN.out.mono ?_
  rintro e X1 ⟨s, cap, hi, hb, rfl, S1, hh, hc, o1⟩
  obtain ⟨lo, hlo⟩ : ∃ lo, w.heap.size = lo := ⟨_, rfl⟩
  have HLo := hid_mk hlo
  rw [hlo] at S1
  have HX : Hid (hb < X1.heap.size) := cell_lt hc
  have HM0 : Hid (Md w lo hi s cap hb (.slice none 0 0) X1 newSp []) := ⟨S1, rt_new, hc, VListIs.nil _ _, (fun a ha => by cases ha), o1⟩
  have Hh := hid_mk hh
  clear HN hlo S1 hc o1 hh
  go_wp2_with fail
  go_loopw [7, 8] (fun v x wr => ∃ (k : Nat) (st : Sp) (l : List Nat), k ≤ 12 ∧ x = .int .i64 k ∧ Md w lo hi s cap hb v wr st l ∧ l.length ≤ k ∧ st.last ≤ k ∧ X1.heap.size ≤ wr.heap.size ∧ (∀ a ∈ l, (st.O a).2.1 ≤ 9) ∧ l.Nodup) (fun _ x _ => 12 - (intOf x).toNat)
  case atStart => exact ⟨0, newSp, [], Nat.zero_le _, rfl, HM0.out, Nat.le_refl _, by show (0 : Int) ≤ 0; omega, Nat.le_refl _, (fun a ha => by cases ha), List.nodup_nil⟩
  case round =>
    obtain ⟨k, st, l, k1, rfl, hM, hl, hla, hX, hz⟩ := hrel
    have HZ := hid_mk hz
    have HMd := hid_mk hM
    have HK := hid_mk (And.intro k1 (And.intro hl (And.intro hla hX)))
    clear hM hl hla hX hz
    have k0 : (0 : Int) ≤ (k : Int) := by omega
    by_cases hgo : k < L.length
    · have g1 : (k : Int) < (L.length : Int) := by omega
      by_cases h12 : k < 12
      · have g2 : (k : Int) < 12 := by omega
        obtain ⟨xk, hxk⟩ : ∃ x, L[k]? = some x := ⟨_, List.getElem?_eq_getElem hgo⟩
        have hxb := HL.out.1 xk (List.mem_of_getElem? hxk)
        rcases HL.out.2 with e | ⟨g, off, rfl, hg, hcell⟩
        · rw [e] at hgo; simp at hgo
        have hcw := ((Out.refl 0 0 wr).alloc (.cells #[.int .i64 1, .int .i64 2, .int .i64 3, .int .i64 8, .int .i64 9, .int .i64 6, .int .i64 7, .int .i64 11] 3)).cell (HMd.out.2.2.2.2.2.cell (hcell k xk hxk) (.inr (Nat.zero_le _))) (.inr (Nat.zero_le _))
        have HW := hid_mk (fun w => within_any xk 8 (by omega) (by omega) hxb.1 hxb.2 w)
        rw [show ((8 : Nat) : Int) = 8 from rfl] at HW
        have Hg := hid_mk (And.intro hgo h12)
        clear hcell hxk hxb hg hgo h12
        go_wp2_with fail
        refine (HW.out _).mono ?_
        rintro e X2 ⟨j, hj, rfl, rfl⟩
        obtain ⟨kd, nn, z, e1, e2, e3, e4, e5, e6, e7, e8⟩ := kd_facts9 hj
        have hlit := lit_cell (w := wr) e1
        have HKd := hid_mk (And.intro e2 (And.intro e3 (And.intro e4 (And.intro e5 (And.intro e6 e7)))))
        have hj8 : (j : Int) < 8 := by omega
        have hj0 : (0 : Int) ≤ (j : Int) := by omega
        clear hcw HW e1 e2 e3 e4 e5 e6 e7
        have HM1 := hid_mk (HMd.out.quiet ((Out.refl 0 0 wr).alloc (.cells #[.int .i64 1, .int .i64 2, .int .i64 3, .int .i64 8, .int .i64 9, .int .i64 6, .int .i64 7, .int .i64 11] 3)))
        have HS1 : Hid (wr.heap.size ≤ (wr.alloc (.cells #[.int .i64 1, .int .i64 2, .int .i64 3, .int .i64 8, .int .i64 9, .int .i64 6, .int .i64 7, .int .i64 11] 3)).heap.size) := ((Out.refl 0 0 wr).alloc _).size
        rcases e8 with ⟨rfl, rfl⟩ | ⟨rfl, rfl⟩ | ⟨rfl, rfl⟩ | ⟨rfl, b3, b6, b11⟩
        all_goals go_wp2_with fail
        all_goals (obtain ⟨V1, hV1⟩ : ∃ V, wr.alloc (.cells #[.int .i64 1, .int .i64 2, .int .i64 3, .int .i64 8, .int .i64 9, .int .i64 6, .int .i64 7, .int .i64 11] 3) = V := ⟨_, rfl⟩)
        all_goals (rw [hV1] at HM1 HS1; rw [hV1])
        all_goals (clear hV1 hlit)
        all_goals (obtain ⟨k1, k2, k3, k4, k5, k6⟩ := HKd.out)
        all_goals (obtain ⟨m1, m2, m3, m4, m5, m6⟩ := HM1.out)
        all_goals
          have hlast : st.last < 4611686018427387904 := by have := HK.out.2.2.1; omega
          rcases mk_step (n := 4) (t := 1) m1.2 m2 k2 k3 k4 with ⟨q1, q2, q3⟩ | ⟨a, st1, x, q1, q2, q3, q4, q5, q6, q7, q8, q9⟩
          · have HMk := hid_mk (Make_full m1 m3 (.inr Hh.out) _ _ 1 k1 (fa := 0) k2 k3 (by omega) (by omega) hlast rfl q1 q2 (by decide))
            rw [q3] at HMk
            clear q1 q2 q3 k1 k2 k3 k4 k5 k6 m1 m2 m3 m4 m5 m6 hlast HKd
            refine HMk.out.mono ?_
            rintro e X3 ⟨rfl, S3, o3⟩
            have HM3 := hid_mk ((HM1.out.make Hh.out (Nat.le_of_eq HLo.out) S3 HM1.out.2.1 (fun _ _ => rfl) o3).quiet (((Out.refl 0 0 X3).alloc (.cells #[.int .i64 0, .int .i64 0] 31)).alloc (.cells #[.int .i64 20, .int .i64 0] 34)))
            have HS3 := hid_mk (Nat.le_trans HS1.out (Nat.le_trans o3.size (((Out.refl 0 0 X3).alloc (.cells #[.int .i64 0, .int .i64 0] 31)).alloc (.cells #[.int .i64 20, .int .i64 0] 34)).size))
            clear S3 o3 HMk HM1 HS1
            go_wp2
            go_roundw
            case rel => exact ⟨k + 1, st, l, by have := Hg.out.2; omega, by go_num, HM3.out, by have := HK.out.2.1; omega, by have := HK.out.2.2.1; omega, Nat.le_trans HK.out.2.2.2 HS3.out, HZ.out⟩
            case measure => have := Hg.out.2; simp [intOf]; omega
          · have HMk := hid_mk (Make_ok m1 m3 (.inr Hh.out) _ _ 1 k1 (a := (a : Int)) (fa := 0) k2 k3 (by omega) (by omega) hlast q1 q2 q3 (q4.symm ▸ q5))
            rw [q4] at HMk
            have hz1 : (∀ b ∈ l ++ [a], (st1.O b).2.1 ≤ 9) ∧ (l ++ [a]).Nodup := by
              refine ⟨fun b hb => ?_, nodup_snoc HZ.out.2 fun hm => ?_⟩
              rotate_left
              · have e := al_free m1.2 m2 k4 q2 q1
                rw [m5 a hm] at e
                cases e
              rcases List.mem_append.1 hb with h | h
              · rw [q9 b (m5 b h)]; exact HZ.out.1 b h
              · simp at h
                subst h
                have e := (raw_at (n := 4) q7).symm.trans q5
                injection e with e
                rw [e]
                exact k6
            have HZ1 := hid_mk hz1
            clear hz1
            have HQ := hid_mk (And.intro q6 (And.intro q7 (And.intro q8 q9)))
            clear q1 q2 q3 q4 q5 q6 q7 q8 q9 k1 k2 k3 k4 k5 k6 m1 m2 m3 m4 m5 m6 hlast HKd
            refine HMk.out.mono ?_
            rintro e X3 ⟨rfl, S3, o3⟩
            have HM3 := hid_mk ((HM1.out.make Hh.out (Nat.le_of_eq HLo.out) S3 HQ.out.1 (fun b hb => HQ.out.2.2.2 b hb) o3).quiet ((((Out.refl 0 0 X3).alloc (.cells #[.int .i64 2, .int .i64 (a : Int)] 31)).alloc (.cells #[.int .i64 0, .int .i64 0] 34)).alloc (.cells #[.int .i64 2, .int .i64 (a : Int)] 31)))
            have HS3 := hid_mk (Nat.le_trans HS1.out (Nat.le_trans o3.size ((((Out.refl 0 0 X3).alloc (.cells #[.int .i64 2, .int .i64 (a : Int)] 31)).alloc (.cells #[.int .i64 0, .int .i64 0] 34)).alloc (.cells #[.int .i64 2, .int .i64 (a : Int)] 31)).size))
            have HN3 := hid_mk (three_third (w := X3) (o := (.cells #[.int .i64 2, .int .i64 (a : Int)] 31)) (o2 := (.cells #[.int .i64 0, .int .i64 0] 34)) (o3 := (.cells #[.int .i64 2, .int .i64 (a : Int)] 31)))
            clear S3 o3 HMk HM1 HS1
            have c1 : l.length ≤ 1000 := by have := HK.out.2.1; have := HK.out.1; omega
            have c2 : Hid (hb + 1 ≤ _) := Nat.le_trans HX.out (Nat.le_trans HK.out.2.2.2 HS3.out)
            go_wp2_with (at_builtin; refine app_val rfl _ _ rfl (hb + 1) _ l rfl HM3.out.2.2.2.1 _ rfl a HN3.out c1 c2.out ?_)
            intro v' X7 hv' o7
            have HM7 : Hid (Md w lo hi s cap hb v' X7 _ (l ++ [a])) := HM3.out.grow Hh.out HLo.out hv' HQ.out.2.1 o7
            have HS7 := hid_mk (Nat.le_trans HS3.out o7.size)
            clear hv' o7 HM3 HS3 HN3 c1 c2
            go_wp2
            go_roundw
            case rel => exact ⟨k + 1, _, l ++ [a], by have := Hg.out.2; omega, by go_num, HM7.out, by have := HK.out.2.1; simp; omega, by have h1 := HK.out.2.2.1; have h2 := HQ.out.2.2.1; unfold lastOf at h2; show st1.last ≤ _; split at h2 <;> omega, Nat.le_trans HK.out.2.2.2 HS7.out, HZ1.out⟩
            case measure => have := Hg.out.2; simp [intOf]; omega
      · have g2 : (12 : Int) ≤ (k : Int) := by omega
        go_wp2
        go_ret3
        exact ⟨hi, s, cap, hb, st, l, _, rfl, (by rw [HLo.out]; exact HMd.out), Hh.out, Nat.le_trans HK.out.2.1 HK.out.1, HZ.out⟩
    · have g1 : (L.length : Int) ≤ (k : Int) := by omega
      go_wp2
      go_ret3
      exact ⟨hi, s, cap, hb, st, l, _, rfl, (by rw [HLo.out]; exact HMd.out), Hh.out, Nat.le_trans HK.out.2.1 HK.out.1, HZ.out⟩
end Go.Proofs.YtcpignkjlnjjmaaDoor
namespace Go.Proofs.YtcpignkjlnjjmaaDoor
open Go.RowKit
set_option linter.unusedVariables false
set_option linter.unusedSimpArgs false

theorem nev {a b c d : Int} (h : ¬ (a = c ∧ b = d)) (W : World) : (binOp .neq 31 (.agg #[.int .i64 a, .int .i64 b]) (.agg #[.int .i64 c, .int .i64 d])).run Tryd.prog W = .ok (.bool true) W := by
  have h' : (a == c && b == d) = false := by
    cases h1 : (a == c)
    · rfl
    · cases h2 : (b == d)
      · rfl
      · exact absurd ⟨by simpa using h1, by simpa using h2⟩ h
  revert h'
  cases h1 : (a == c) <;> cases h2 : (b == d) <;> intro h' <;> first | exact absurd h' (by decide) | go_simp
end Go.Proofs.YtcpignkjlnjjmaaDoor
