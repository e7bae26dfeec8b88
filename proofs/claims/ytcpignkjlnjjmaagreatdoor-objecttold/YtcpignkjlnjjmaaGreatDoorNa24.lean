import Derived.Test.YtcpignkjlnjjmaaGreatDoorNa23
namespace Go.Proofs.YtcpignkjlnjjmaaGreatDoor
open Go.RowKit
set_option linter.unusedVariables false
set_option linter.unusedSimpArgs false

/-- what is taken of a class: the place, the error and its place -/
def TkB (lo hi : Nat) (s : Nat → Nat) (n cap : Nat) (r : Raw) (c : Nat) (v e1 e2 : Int) (w' : World) : Prop :=
  (nxr (r.F c) (64 * n) 0 = -1 ∧ ∃ p, rowF r.S n 1 = some p ∧ v = ((64 * p : Nat) : Int) ∧ e1 = 0 ∧ e2 = 0 ∧ RawAt w' lo hi s n cap (tpR n r c p)) ∨
  (nxr (r.F c) (64 * n) 0 = -1 ∧ rowF r.S n 1 = none ∧ v = 0 ∧ e1 = 20 ∧ e2 = 0 ∧ RawAt w' lo hi s n cap r) ∨
  (∃ a : Nat, nxr (r.F c) (64 * n) 0 = a ∧ a < 64 * n ∧ r.F c a = true ∧ r.W a = linkV (nxr (r.F c) (64 * n) (a + 1)) ∧ v = (a : Int) ∧ e1 = 0 ∧ e2 = 0 ∧ RawAt w' lo hi s n cap { r with F := fun d => if d = c then upd (r.F c) a false else r.F d }) ∨
  (∃ a : Nat, nxr (r.F c) (64 * n) 0 = a ∧ a < 64 * n ∧ r.F c a = true ∧ r.W a ≠ linkV (nxr (r.F c) (64 * n) (a + 1)) ∧ v = 0 ∧ e1 = 21 ∧ e2 = (a : Int) ∧ RawAt w' lo hi s n cap r)
def TkR (lo hi : Nat) (s : Nat → Nat) (n cap : Nat) (r : Raw) (k : Nat) (v e1 e2 : Int) (w' : World) : Prop :=
  (∃ p, rowF r.S n k = some p ∧ v = ((64 * p : Nat) : Int) ∧ e1 = 0 ∧ e2 = 0 ∧ RawAt w' lo hi s n cap { r with S := setR r.S p k }) ∨ (rowF r.S n k = none ∧ v = 0 ∧ e1 = 20 ∧ e2 = 0 ∧ RawAt w' lo hi s n cap r)
section
variable {w w' : World} {lo hi n cap : Nat} {s : Nat → Nat} {r : Raw}
theorem TkB.kept {c x y : Nat} {v e1 e2 : Int} (h : TkB lo hi s n cap r c v e1 e2 w) (o : Out x y w w') (hd : hi ≤ x) (hg : 4 ≤ x) : TkB lo hi s n cap r c v e1 e2 w' := by
  rcases h with ⟨h1, p, h2, h3, h4, h5, h6⟩ | ⟨h1, h2, h3, h4, h5, h6⟩ | ⟨a, h1, h2, h3, h4, h5, h6, h7, h8⟩ | ⟨a, h1, h2, h3, h4, h5, h6, h7, h8⟩
  · exact .inl ⟨h1, p, h2, h3, h4, h5, h6.kept o (.inl hd) (.inl hg)⟩
  · exact .inr (.inl ⟨h1, h2, h3, h4, h5, h6.kept o (.inl hd) (.inl hg)⟩)
  · exact .inr (.inr (.inl ⟨a, h1, h2, h3, h4, h5, h6, h7, h8.kept o (.inl hd) (.inl hg)⟩))
  · exact .inr (.inr (.inr ⟨a, h1, h2, h3, h4, h5, h6, h7, h8.kept o (.inl hd) (.inl hg)⟩))
theorem TkR.kept {k x y : Nat} {v e1 e2 : Int} (h : TkR lo hi s n cap r k v e1 e2 w) (o : Out x y w w') (hd : hi ≤ x) (hg : 4 ≤ x) : TkR lo hi s n cap r k v e1 e2 w' := by
  rcases h with ⟨p, h2, h3, h4, h5, h6⟩ | ⟨h2, h3, h4, h5, h6⟩
  · exact .inl ⟨p, h2, h3, h4, h5, h6.kept o (.inl hd) (.inl hg)⟩
  · exact .inr ⟨h2, h3, h4, h5, h6.kept o (.inl hd) (.inl hg)⟩
theorem takeBlock_told (h : RawAt w lo hi s n cap r) {c : Nat} (hc : c < 8) :
    Calls Tryz.prog 90 #[.pointer (some ⟨s 14, 0, none⟩), .int .i64 (c : Int)] w fun e w' => ∃ v e1 e2, e = .returned (.tuple #[.int .i64 v, .agg #[.int .i64 e1, .int .i64 e2]]) ∧ TkB lo hi s n cap r c v e1 e2 w' ∧ Out lo hi w w' := by
  refine (takeBlock_any h hc).mono ?_
  rintro e w' ⟨⟨h1, h2⟩ | ⟨a, h1, h2, h3, h4, rfl, h6⟩ | ⟨a, h1, h2, h3, h4, rfl, h6⟩, ho⟩
  · cases hf : rowF r.S n 1 with
    | none =>
      rw [hf] at h2
      obtain ⟨rfl, h3⟩ := h2
      exact ⟨_, _, _, rfl, .inr (.inl ⟨h1, hf, rfl, rfl, rfl, h3⟩), ho⟩
    | some p =>
      rw [hf] at h2
      obtain ⟨rfl, h3⟩ := h2
      exact ⟨_, _, _, rfl, .inl ⟨h1, p, hf, rfl, rfl, rfl, h3⟩, ho⟩
  · exact ⟨_, _, _, rfl, .inr (.inr (.inl ⟨a, h1, h2, h3, h4, rfl, rfl, rfl, h6⟩)), ho⟩
  · exact ⟨_, _, _, rfl, .inr (.inr (.inr ⟨a, h1, h2, h3, h4, rfl, rfl, rfl, h6⟩)), ho⟩
theorem takeRun_told (h : RawAt w lo hi s n cap r) (k : Nat) (h1 : 1 ≤ k) (h2 : k ≤ 16) :
    Calls Tryz.prog 89 #[.pointer (some ⟨s 14, 0, none⟩), .int .i64 (k : Int)] w fun e w' => ∃ v e1 e2, e = .returned (.tuple #[.int .i64 v, .agg #[.int .i64 e1, .int .i64 e2]]) ∧ TkR lo hi s n cap r k v e1 e2 w' ∧ Out lo hi w w' := by
  refine (spTakeRun_any h k h1 h2).mono ?_
  rintro e w' ⟨h2, ho⟩
  cases hf : rowF r.S n k with
  | none =>
    rw [hf] at h2
    obtain ⟨rfl, h3⟩ := h2
    exact ⟨_, _, _, rfl, .inr ⟨hf, rfl, rfl, rfl, h3⟩, ho⟩
  | some p =>
    rw [hf] at h2
    obtain ⟨rfl, h3⟩ := h2
    exact ⟨_, _, _, rfl, .inl ⟨p, hf, rfl, rfl, rfl, h3⟩, ho⟩
/-- what is taken for a size -/
def TkS (lo hi : Nat) (s : Nat → Nat) (n cap : Nat) (r : Raw) (z : Int) (v e1 e2 : Int) (w' : World) : Prop :=
  (32 < z ∧ TkR lo hi s n cap r ((z + 63) / 64).toNat v e1 e2 w') ∨ (z ≤ 32 ∧ TkB lo hi s n cap r (ofV z).toNat v e1 e2 w')
theorem TkS.kept {x y : Nat} {z v e1 e2 : Int} (h : TkS lo hi s n cap r z v e1 e2 w) (o : Out x y w w') (hd : hi ≤ x) (hg : 4 ≤ x) : TkS lo hi s n cap r z v e1 e2 w' := by
  rcases h with ⟨h1, h2⟩ | ⟨h1, h2⟩
  · exact .inl ⟨h1, h2.kept o hd hg⟩
  · exact .inr ⟨h1, h2.kept o hd hg⟩
set_option maxHeartbeats 1000000 in
theorem take_any (h : RawAt w lo hi s n cap r) {z : Int} (z1 : 1 ≤ z) (z2 : z ≤ 1024) :
    Calls Tryz.prog 74 #[.pointer (some ⟨s 14, 0, none⟩), .int .i64 z] w fun e w' => ∃ v e1 e2, e = .returned (.tuple #[.int .i64 v, .agg #[.int .i64 e1, .int .i64 e2]]) ∧ TkS lo hi s n cap r z v e1 e2 w' ∧ Out lo hi w w' := by
  have h0 : Out 0 0 w (w.alloc (.cells #[.int .i64 0, .int .i64 0] 33)) := (Out.refl 0 0 w).alloc _
  have HZ := hid_mk (fz_new w)
  have H0 := hid_mk h0
  have HQ := hid_mk (fun w' (o : Out 0 0 w w') => h.quiet o)
  have HT : Hid (hi ≤ w.heap.size ∧ 4 ≤ w.heap.size ∧ n ≤ 4096) := ⟨h.top, h.tab.lt, h.n2⟩
  have HP := hid_mk (calls_out (pages_any z (w.alloc (.cells #[.int .i64 0, .int .i64 0] 33))) (Out.refl 0 0 _))
  by_cases hz : 32 < z
  · obtain ⟨k1, k2, k3⟩ := run_k hz z2
    obtain ⟨k, hk⟩ : ∃ k, ((z + 63) / 64).toNat = k := ⟨_, rfl⟩
    rw [hk] at k1 k2 k3
    have hpz : pagesV z = (k : Int) := by unfold pagesV; rw [if_pos ⟨hz, z2⟩]; omega
    rw [hpz] at HP
    have HR := hid_mk (fun w' (o : Out 0 0 w w') => takeRun_told (h.quiet o) k k1 k2)
    have b0 : (0 : Int) < (k : Int) := by omega
    have HE : Hid (32 < z ∧ ((z + 63) / 64).toNat = k) := ⟨hz, hk⟩
    clear h h0 hz hk k3 hpz z1 z2 k1 k2
    go_enter Tryz.func74, Tryz.ntmps74
    go_wp2_with (first
      | (go_at_call 88; refine HP.out.mono ?_; rintro e w1 ⟨rfl, ho⟩; have HO1 := hid_mk (H0.out.trans ho); have HB1 := hid_mk (ho.heap HZ.out (.inr (Nat.zero_le _))); clear ho)
      | (go_at_call 89; refine (HR.out _ HO1.out).mono ?_; rintro e w2 ⟨v, e1, e2, rfl, ht, ho⟩; have HT2 := hid_mk ht; have HO2 := hid_mk ((HO1.out.any lo hi).trans ho); obtain ⟨q4, q5, q6, q7⟩ := flt_facts (ho.heap HB1.out (.inr HT.out.1)); have HB2 := hid_mk (ho.heap HB1.out (.inr HT.out.1)); clear ht ho))
    refine retIF Tryz.results74 rfl rfl rfl (flt_set HB2.out) ⟨v, e1, e2, rfl, .inl ⟨HE.out.1, by rw [HE.out.2]; exact HT2.out.kept ((Out.refl w.heap.size (w.heap.size + 1) _).set2 (.inl ⟨Nat.le_refl _, Nat.lt_succ_self _⟩) _ _) HT.out.1 HT.out.2.1⟩, HO2.out.set2 (.inr (Nat.le_refl _)) _ _⟩
  · have hz' : z ≤ 32 := by omega
    obtain ⟨c0, c7, _⟩ := of_small z1 hz'
    obtain ⟨c, hc⟩ : ∃ c : Nat, ofV z = c := ⟨(ofV z).toNat, by omega⟩
    have hpz : pagesV z = 0 := (roomN_small z1 hz').2
    rw [hpz] at HP
    have HF := hid_mk (fun w' (o : Out 0 0 w w') => calls_out (of_any z w') o)
    rw [hc] at HF
    have HR := hid_mk (fun w' (o : Out 0 0 w w') => takeBlock_told (h.quiet o) (c := c) (by omega))
    have HE : Hid (z ≤ 32 ∧ (ofV z).toNat = c) := ⟨hz', by omega⟩
    have HF2 := hid_mk (fun w' => calls_out (of_any z w') (Out.refl 0 0 w'))
    rw [hc] at HF2
    clear h h0 hz hz' hpz z1 z2 c0 c7 hc
    go_enter Tryz.func74, Tryz.ntmps74
    go_wp2_with (first
      | (go_at_call 88; refine HP.out.mono ?_; rintro e w1 ⟨rfl, ho⟩; have HO1 := hid_mk (H0.out.trans ho); have HB1 := hid_mk (ho.heap HZ.out (.inr (Nat.zero_le _))); clear ho)
      | (go_at_call 91; refine (HF2.out _).mono ?_; rintro e w3 ⟨rfl, ho⟩; have HO3 := hid_mk (HO1.out.trans ho); have HB3 := hid_mk (ho.heap HB1.out (.inr (Nat.zero_le _))); clear ho)
      | (go_at_call 90; refine (HR.out _ HO3.out).mono ?_; rintro e w2 ⟨v, e1, e2, rfl, ht, ho⟩; have HT2 := hid_mk ht; have HO2 := hid_mk ((HO3.out.any lo hi).trans ho); obtain ⟨q4, q5, q6, q7⟩ := flt_facts (ho.heap HB3.out (.inr HT.out.1)); have HB2 := hid_mk (ho.heap HB3.out (.inr HT.out.1)); clear ht ho))
    refine retIF Tryz.results74 rfl rfl rfl (flt_set HB2.out) ⟨v, e1, e2, rfl, .inr ⟨HE.out.1, by rw [HE.out.2]; exact HT2.out.kept ((Out.refl w.heap.size (w.heap.size + 1) _).set2 (.inl ⟨Nat.le_refl _, Nat.lt_succ_self _⟩) _ _) HT.out.1 HT.out.2.1⟩, HO2.out.set2 (.inr (Nat.le_refl _)) _ _⟩
theorem number_any (h : RawAt w lo hi s n cap r) (k : Int) (hl : r.last < 4611686018427387904) (hl0 : 0 ≤ r.last) :
    Calls Tryz.prog 76 #[.pointer (some ⟨s 14, 0, none⟩), .int .i64 k] w fun e w' => e = .returned (.int .i64 (if numB k then r.last + 1 else 0)) ∧ RawAt w' lo hi s n cap { r with last := if numB k then r.last + 1 else r.last } ∧ Out lo hi w w' := by
  have HN := hid_mk (fun w' => numbered_any k w')
  obtain ⟨c0, c1, c2, c3, c4, c5⟩ := h.cells
  have f5 := h.cellL
  have HS := hid_mk (h.setL (r.last + 1))
  have HW := hid_mk (h.wide (i := 14) (by omega) HS.out.2)
  have HR := hid_mk h
  cases hb : numB k with
  | true =>
    have e : (decide (1 ≤ k) && decide (k ≤ 11)) = true := hb
    rw [e] at HN
    simp only [if_true]
    clear h hb e
    go_enter Tryz.func76, Tryz.ntmps76
    go_wp2_with (first | (go_at_call 95; refine calls_same (HN.out _) ?_))
    go_ret
    exact ⟨rfl, HS.out.1, HW.out⟩
  | false =>
    have e : (decide (1 ≤ k) && decide (k ≤ 11)) = false := hb
    rw [e] at HN
    simp only [Bool.false_eq_true, if_false]
    clear h hb e
    go_enter Tryz.func76, Tryz.ntmps76
    go_wp2_with (first | (go_at_call 95; refine calls_same (HN.out _) ?_))
    go_ret
    exact ⟨rfl, HR.out, Out.refl _ _ _⟩
end
end Go.Proofs.YtcpignkjlnjjmaaGreatDoor
namespace Go.Proofs.YtcpignkjlnjjmaaGreatDoor
open Go.RowKit
set_option linter.unusedVariables false
set_option linter.unusedSimpArgs false

section
variable {n a : Nat} {st : Sp} {fresh : Bool} {kd z t : Int}
theorem takeF_O : (takeF n st a fresh kd z t).O = putO st.O a (kd, z, serOf st kd, t) := rfl
theorem ob_take (hf : fitsB kd z = true) (ha : a < 64 * n) : upd (ob n st) a true = ob n (takeF n st a fresh kd z t) := by
  have hk := fits_size hf
  have hb : hasB (kd, z, serOf st kd, t) = true := by unfold hasB; simp; omega
  funext i
  unfold upd ob
  rw [takeF_O, hasB_put]
  by_cases e : i = a
  · subst e; rw [if_pos rfl, if_pos rfl, hb]; simp [ha]
  · rw [if_neg e, if_neg e]
theorem obM_take (hf : fitsB kd z = true) : (fun i => if i = (a : Int) then some (kd, z, serOf st kd, t) else obM st i) = obM (takeF n st a fresh kd z t) := by
  have hk := fits_size hf
  have hb : hasB (kd, z, serOf st kd, t) = true := by unfold hasB; simp; omega
  funext i
  unfold obM
  rw [takeF_O, hasB_put]
  by_cases e : i = (a : Int)
  · subst e
    rw [if_pos rfl, Int.toNat_natCast, if_pos rfl, if_pos ⟨by omega, hb⟩]
    unfold putO
    rw [if_pos rfl]
  · rw [if_neg e]
    by_cases h0 : 0 ≤ i
    · have e2 : i.toNat ≠ a := by omega
      rw [if_neg e2]
      unfold putO
      rw [if_neg e2]
    · rw [if_neg (by omega), if_neg (by omega)]
theorem serM_take (hi : Inv n st) (hf : fitsB kd z = true) (ha : a < 64 * n) (hno : hasB (st.O a) = false) :
    (if 0 < serOf st kd then (fun i => if i = serOf st kd then some (a : Int) else serM n st i) else serM n st) = serM n (takeF n st a fresh kd z t) := by
  have hk := fits_size hf
  have hb : hasB (kd, z, serOf st kd, t) = true := by unfold hasB; simp; omega
  have other : ∀ x : Int, 1 ≤ x → x ≠ serOf st kd → serM n (takeF n st a fresh kd z t) x = serM n st x := by
    intro x x1 x2
    unfold serM serF
    rw [if_pos x1, if_pos x1]
    congr 1
    congr 1
    refine congrArg (fun f => List.find? f (List.range (64 * n))) (funext fun i => ?_)
    rw [takeF_O]
    by_cases e : i = a
    · subst e
      rw [hno]
      unfold putO
      rw [if_pos rfl, hb]
      have : ((kd, z, serOf st kd, t) : Blk).2.2.1 = serOf st kd := rfl
      rw [this, beq_eq_false_iff_ne.mpr (fun h => x2 h.symm)]
      rfl
    · unfold putO
      rw [if_neg e]
  have low : ∀ x : Int, x < 1 → ∀ q : Sp, serM n q x = none := by
    intro x hx q
    unfold serM serF
    rw [if_neg (by omega)]
    rfl
  funext x
  by_cases hn : numB kd = true
  · have hs : serOf st kd = st.last + 1 := by unfold serOf; rw [if_pos hn]
    have h0 := hi.last0
    rw [if_pos (by omega)]
    by_cases e : x = serOf st kd
    · rw [if_pos e]
      unfold serM serF
      rw [if_pos (by omega)]
      rw [find_range_some (p := a) ha]
      · rfl
      · rw [takeF_O]
        unfold putO
        rw [if_pos rfl, hb, e]
        simp
      · intro q hq
        rw [takeF_O]
        unfold putO
        rw [if_neg (by omega)]
        cases hq2 : hasB (st.O q) with
        | false => rfl
        | true =>
          have := hi.ser q hq2
          rw [Bool.true_and, beq_eq_false_iff_ne]
          intro e2
          cases hn2 : numB (st.O q).1 with
          | true => have := (this.1 hn2).2; omega
          | false => have := this.2 hn2; omega
    · rw [if_neg e]
      by_cases x1 : 1 ≤ x
      · exact (other x x1 e).symm
      · rw [low x (by omega), low x (by omega)]
  · have hs : serOf st kd = 0 := by unfold serOf; rw [if_neg hn]
    rw [if_neg (by omega)]
    by_cases x1 : 1 ≤ x
    · exact (other x x1 (by omega)).symm
    · rw [low x (by omega), low x (by omega)]
/-- the raw parts, with the last serial turned -/
def numR (r : Raw) (st : Sp) (kd : Int) : Raw := { r with last := if numB kd then st.last + 1 else st.last }
theorem tie_run {p : Nat} (hi : Inv n st) (hf : fitsB kd z = true) (h32 : 32 < z) (hr : rowF st.S n ((z + 63) / 64).toNat = some p) :
    enR (numR { rawOf n st with S := setR st.S p ((z + 63) / 64).toNat } st kd) (64 * p) kd z (serOf st kd) t = rawOf n (takeF n st (64 * p) false kd z t) := by
  obtain ⟨h1, h2, h3, h4⟩ := take_run (t := t) hi hf h32 hr
  have hp := rowF_some hr
  refine Raw.eq rfl ?_ ?_ (ob_take hf (by omega)) (obM_take hf) (serM_take hi hf (by omega) h3) rfl
  · show setR st.S p _ = takeS st (64 * p) false z
    unfold takeS
    rw [if_pos h32, show 64 * p / 64 = p from by omega]
  · funext c
    exact (h2 (c : Int)).symm
theorem tie_block (hi : Inv n st) (hf : fitsB kd z = true) (h32 : z ≤ 32) (ha : fr n st (ofV z) a = true) {c : Nat} (hc : ofV z = c) :
    enR (numR { rawOf n st with F := fun d => if d = c then upd (fr n st (c : Int)) a false else fr n st (d : Int) } st kd) a kd z (serOf st kd) t = rawOf n (takeF n st a false kd z t) := by
  obtain ⟨h1, h2, h3⟩ := take_block (t := t) hi hf h32 ha
  obtain ⟨f1, f2, f3, f4⟩ := fr_iff.1 ha
  refine Raw.eq rfl ?_ ?_ (ob_take hf f1) (obM_take hf) (serM_take hi hf f1 f4) rfl
  · show st.S = takeS st a false z
    unfold takeS
    rw [if_neg (by omega)]; rfl
  · funext d
    show (if d = c then upd (fr n st (c : Int)) a false else fr n st (d : Int)) = fr n (takeF n st a false kd z t) (d : Int)
    rw [h2]
    by_cases e : d = c
    · rw [if_pos e, e]
    · rw [if_neg e]
      funext i
      unfold upd
      by_cases e2 : i = a
      · rw [if_pos e2, e2]; exact h3 _ (by omega)
      · rw [if_neg e2]
theorem tie_fresh {p : Nat} (hi : Inv n st) (hf : fitsB kd z = true) (h32 : z ≤ 32) (hr : rowF st.S n 1 = some p) {c : Nat} (hc : ofV z = c) (hc8 : c < 8) :
    enR (numR (tpR n (rawOf n st) c p) st kd) (64 * p) kd z (serOf st kd) t = rawOf n (takeF n st (64 * p) true kd z t) := by
  obtain ⟨h1, h2, h3, h4, h5⟩ := take_fresh (t := t) hi hf h32 hr
  have hF : ∀ d : Nat, tpF (rawOf n st) c p d = fr n (takeF n st (64 * p) true kd z t) (d : Int) := by
    intro d
    funext i
    rw [h2, hc]
    unfold tpF
    by_cases e : i / 64 = p
    · rw [if_pos e]
      have ez : ∀ q : Int, fr n st q i = false := by
        intro q
        cases hh : fr n st q i with
        | false => rfl
        | true =>
          have := (fr_iff.1 hh).2.1
          rw [e, h5] at this
          simp at this
      by_cases e2 : d = c
      · rw [if_pos e2, e2]
        unfold upd fuR
        show (if i = 64 * p then false else (fr n st (c : Int) i || (decide (i / 64 = p) && startB (c : Int) (i % 64) && !ob n st i))) = _
        have eo : ob n st i = false := by rw [ob_has hi]; exact h3 i e
        rw [ez, eo]
        by_cases e3 : i = 64 * p
        · rw [if_pos e3]; simp [e3]
        · rw [if_neg e3]; simp [e3, e]
      · rw [if_neg e2]
        show fr n st (d : Int) i = _
        rw [ez, show decide ((d : Int) = (c : Int)) = false from by simp; omega]
        rfl
    · rw [if_neg e]
      by_cases e2 : d = c
      · rw [if_pos e2, e2]
        unfold upd fuR
        rw [if_neg (by omega)]
        show (fr n st (c : Int) i || (decide (i / 64 = p) && startB (c : Int) (i % 64) && !ob n st i)) = _
        simp [e]
      · rw [if_neg e2]; rfl
  refine Raw.eq ?_ ?_ (funext hF) (ob_take hf (by omega)) (obM_take hf) (serM_take hi hf (by omega) (h3 _ (by omega))) rfl
  · show updW (zeroW (linkR n (tp4 (rawOf n st) c p) c) (64 * p) (roomN z)) (64 * p) (makeV ((64 * p : Nat) : Int) kd z) = (takeF n st (64 * p) true kd z t).W
    have e1 : linkR n (tp4 (rawOf n st) c p) c = linkW n ⟨zeroW st.W (64 * p) 64, takeS st (64 * p) true z, putO st.O (64 * p) (kd, z, serOf st kd, t), 0⟩ (ofV z) := by
      have e2 : (tp4 (rawOf n st) c p).F c = fr n ⟨zeroW st.W (64 * p) 64, takeS st (64 * p) true z, putO st.O (64 * p) (kd, z, serOf st kd, t), 0⟩ (ofV z) := by
        rw [hc]
        exact hF c
      funext i
      unfold linkR linkW nf
      rw [e2]
      rfl
    rw [e1]
    rfl
  · show setC st.S p (c : Int) = takeS st (64 * p) true z
    unfold takeS
    rw [if_neg (by omega), if_pos rfl, show 64 * p / 64 = p from by omega, hc]
end
end Go.Proofs.YtcpignkjlnjjmaaGreatDoor
namespace Go.Proofs.YtcpignkjlnjjmaaGreatDoor
open Go.RowKit
set_option linter.unusedVariables false
set_option linter.unusedSimpArgs false

/-- what take has told, in the words of Alloc -/
theorem tkS_cases {lo hi' n cap : Nat} {s : Nat → Nat} {st : Sp} {kd z t v e1 e2 : Int} {w' : World} (hi : Inv n st) (hf : fitsB kd z = true) (h : TkS lo hi' s n cap (rawOf n st) z v e1 e2 w') :
    (e1 ≠ 0 ∧ v = 0 ∧ RawAt w' lo hi' s n cap (rawOf n st) ∧ alF n st kd z t = (0, e1, e2, st)) ∨
    (e1 = 0 ∧ e2 = 0 ∧ ∃ (a : Nat) (r1 : Raw) (st' : Sp), v = (a : Int) ∧ RawAt w' lo hi' s n cap r1 ∧ r1.last = st.last ∧ a + roomN z ≤ 64 * n ∧ a < 64 * n ∧ alF n st kd z t = ((a : Int), 0, 0, st') ∧ enR (numR r1 st kd) a kd z (serOf st kd) t = rawOf n st' ∧ Inv n st') := by
  have hz := fits_size hf
  unfold alF
  rw [if_pos hf]
  rcases h with ⟨h32, h⟩ | ⟨h32, h⟩
  · have hpl : placeF n st z = (rowF st.S n ((z + 63) / 64).toNat).map fun p => (64 * p, false) := by unfold placeF; rw [if_pos h32]
    rw [hpl]
    rcases h with ⟨p, h2, h3, h4, h5, h6⟩ | ⟨h2, h3, h4, h5, h6⟩
    · have h2' : rowF st.S n ((z + 63) / 64).toNat = some p := h2
      obtain ⟨t1, t2, t3, t4⟩ := take_run (t := t) hi hf h32 h2'
      obtain ⟨k1, k2, k3⟩ := run_k h32 hz.2.2.2
      right
      refine ⟨h4, h5, 64 * p, _, takeF n st (64 * p) false kd z t, h3, h6, rfl, ?_, ?_, ?_, tie_run hi hf h32 h2', t1⟩
      · unfold roomN; rw [if_pos h32]; omega
      · omega
      · rw [h2']
        simp only [Option.map_some]
        rw [if_neg (by omega)]
    · have h2' : rowF st.S n ((z + 63) / 64).toNat = none := h2
      left
      rw [h2']
      exact ⟨by omega, h3, h6, by rw [h4, h5]; rfl⟩
  · obtain ⟨c0, c7, cw⟩ := of_small hz.2.2.1 h32
    obtain ⟨c, hc⟩ : ∃ c : Nat, ofV z = c := ⟨(ofV z).toNat, by omega⟩
    rw [show (ofV z).toNat = c from by omega] at h
    have hroom : roomN z = wN (c : Int) := by unfold roomN; rw [if_neg (by omega), hc]
    have hw := wN_pos (c := (c : Int)) (by omega) (by omega)
    have hFc : (rawOf n st).F c = fr n st (ofV z) := by rw [hc]; rfl
    have hpl : placeF n st z = if 0 ≤ nf n st (ofV z) 0 then some ((nf n st (ofV z) 0).toNat, false) else (rowF st.S n 1).map fun p => (64 * p, true) := by unfold placeF; rw [if_neg (by omega)]
    rw [hpl]
    have hnf : nf n st (ofV z) 0 = nxr ((rawOf n st).F c) (64 * n) 0 := by rw [hFc]; rfl
    rcases h with ⟨h1, p, h2, h3, h4, h5, h6⟩ | ⟨h1, h2, h3, h4, h5, h6⟩ | ⟨a, h1, h2, h3, h4, h5, h6, h7, h8⟩ | ⟨a, h1, h2, h3, h4, h5, h6, h7, h8⟩
    · have h2' : rowF st.S n 1 = some p := h2
      obtain ⟨t1, t2, t3, t4, t5⟩ := take_fresh (t := t) hi hf h32 h2'
      right
      refine ⟨h4, h5, 64 * p, _, takeF n st (64 * p) true kd z t, h3, h6, rfl, by omega, by omega, ?_, tie_fresh hi hf h32 h2' hc (by omega), t1⟩
      rw [hnf, h1, if_neg (by omega), h2']
      simp only [Option.map_some]
      rw [if_neg (by simp)]
    · have h2' : rowF st.S n 1 = none := h2
      left
      refine ⟨by omega, h3, h6, ?_⟩
      rw [hnf, h1, if_neg (by omega), h2', h4, h5]
      rfl
    · rw [hFc] at h3
      obtain ⟨t1, t2, t3⟩ := take_block (t := t) hi hf h32 h3
      have hst := (fr_iff.1 h3).2.2.1
      unfold startB at hst
      rw [hc] at hst
      simp at hst
      right
      refine ⟨h6, h7, a, _, takeF n st a false kd z t, h5, h8, rfl, by omega, h2, ?_, tie_block hi hf h32 h3 hc, t1⟩
      rw [hnf, h1, if_pos (by omega)]
      simp only [Int.toNat_natCast]
      rw [if_neg]
      rintro ⟨_, _, hne⟩
      apply hne
      unfold nf
      rw [← hFc]
      exact h4
    · left
      refine ⟨by omega, h5, h8, ?_⟩
      rw [hnf, h1, if_pos (by omega)]
      simp only [Int.toNat_natCast]
      rw [if_pos, h6, h7]
      refine ⟨h32, by simp, ?_⟩
      unfold nf
      rw [← hFc]
      exact h4
section
variable {w : World} {lo hi n cap : Nat} {s : Nat → Nat} {st : Sp}
set_option maxRecDepth 100000 in
set_option maxHeartbeats 2000000 in
theorem alloc_any (h : SpAt w lo hi s n cap st) (k z t : Int) (z1 : -9223372036854775808 ≤ z) (z2 : z ≤ 9223372036854775807) (hl : st.last < 4611686018427387904) :
    Calls Tryz.prog 53 #[.pointer (some ⟨s 14, 0, none⟩), .int .i64 k, .int .i64 z, .int .i64 t] w fun e w' =>
      e = .returned (.tuple #[.int .i64 (alF n st k z t).1, .agg #[.int .i64 (alF n st k z t).2.1, .int .i64 (alF n st k z t).2.2.1]]) ∧ SpAt w' lo hi s n cap (alF n st k z t).2.2.2 ∧ Out lo hi w w' := by
  obtain ⟨hr, hi'⟩ := h
  have h0 : Out 0 0 w (w.alloc (.cells #[.int .i64 0, .int .i64 0] 33)) := (Out.refl 0 0 w).alloc _
  have HZ := hid_mk (fz_new w)
  have H0 := hid_mk h0
  have HQ := hid_mk (hr.quiet h0)
  have HT : Hid (hi ≤ w.heap.size ∧ 4 ≤ w.heap.size ∧ n ≤ 4096) := ⟨hr.top, hr.tab.lt, hr.n2⟩
  have HF := hid_mk (fun w' (hT : Tab w') => fits_any k z hT z1 z2)
  have HI := hid_mk hi'
  have HQ2 := hid_mk (hr.quiet ((Out.refl 0 0 w).alloc (.cells #[.int .i64 24, .int .i64 0] 33)))
  have HL := hid_mk (And.intro hl hi'.last0)
  cases hf : fitsB k z with
  | false =>
    have ha : alF n st k z t = (0, 24, 0, st) := by unfold alF; rw [hf]; rfl
    rw [hf] at HF
    rw [ha]
    clear hr h0 hf ha hi' hl z1 z2
    go_enter Tryz.func53, Tryz.ntmps53
    go_wp2_with (first
      | (go_at_call 63; refine calls_same (HF.out _ HQ.out.tab) ?_))
    refine retIF Tryz.results53 rfl rfl rfl (heap_alloc_new _ _) ⟨rfl, ⟨HQ2.out, HI.out⟩, (((Out.refl 0 0 w).alloc _).any lo hi)⟩
  | true =>
    rw [hf] at HF
    have hz := fits_size hf
    have HTk := hid_mk (take_any (hr.quiet h0) (z := z) hz.2.2.1 hz.2.2.2)
    have HFt := hid_mk hf
    clear hr h0 hf hi' hl z1 z2 hz
    go_enter Tryz.func53, Tryz.ntmps53
    go_wp2_with (first
      | (go_at_call 63; refine calls_same (HF.out _ HQ.out.tab) ?_)
      | (go_at_call 42; refine calls_same (self_any _ _) ?_))
    refine HTk.out.mono ?_
    rintro e w1 ⟨v, e1, e2, rfl, ht, ho⟩
    have HO1 := hid_mk (ho.alloc (.cells #[.int .i64 e1, .int .i64 e2] 33))
    obtain ⟨q4, q5, q6, q7⟩ := flt_facts (HO1.out.heap HZ.out (.inr HT.out.1))
    rcases tkS_cases (t := t) HI.out HFt.out ht with ⟨hne, rfl, hr1, hal⟩ | ⟨rfl, rfl, a, r1, st', rfl, hr1, hl1, ha1, ha2, hal, htie, hinv⟩
    · have HAL := hid_mk hal
      have hb : (e1 != 0) = true := by simp [hne]
      have HR1 := hid_mk (hr1.quiet ((Out.refl 0 0 w1).alloc (.cells #[.int .i64 e1, .int .i64 e2] 33)))
      have qa := flt_facts (heap_alloc_new w1 (.cells #[.int .i64 e1, .int .i64 e2] 33))
      obtain ⟨t4, t5, t6, t7⟩ := qa
      have n1 : w1.heap.size ≠ w.heap.size := by have := ho.size; simp at this; omega
      have n2 := Ne.symm n1
      clear ht ho hr1 hal hne HTk
      go_wp2_with fail
      go_region_with fail
      all_goals (try go_wp2)
      all_goals
        refine retIF Tryz.results53 rfl rfl rfl (flt_set (HO1.out.heap HZ.out (.inr HT.out.1))) ?_
        rw [HAL.out]
        exact ⟨rfl, ⟨(HR1.out.kept ((Out.refl w.heap.size (w.heap.size + 1) _).set2 (.inl ⟨Nat.le_refl _, Nat.lt_succ_self _⟩) _ _) (.inl HT.out.1) (.inl HT.out.2.1)).quiet ((Out.refl 0 0 _).drew), HI.out⟩, (((H0.out.any lo hi).trans HO1.out).set2 (.inr (Nat.le_refl _)) _ _).drew⟩
    · have HAL := hid_mk hal
      have HR1 := hid_mk (hr1.quiet ((Out.refl 0 0 w1).alloc (.cells #[.int .i64 0, .int .i64 0] 33)))
      have HN : Hid (Calls Tryz.prog 76 #[.pointer (some ⟨s 14, 0, none⟩), .int .i64 k] (w1.alloc (.cells #[.int .i64 0, .int .i64 0] 33)) fun e w' => e = .returned (.int .i64 (serOf st k)) ∧ RawAt w' lo hi s n cap (numR r1 st k) ∧ Out lo hi (w1.alloc (.cells #[.int .i64 0, .int .i64 0] 33)) w') := by
        have := number_any HR1.out k (by rw [hl1]; exact HL.out.1) (by rw [hl1]; exact HL.out.2)
        rw [hl1] at this
        exact this
      have HTie := hid_mk htie
      have HInv := hid_mk hinv
      have HA := hid_mk (And.intro ha1 ha2)
      have hz := fits_size HFt.out
      have HE := hid_mk (fun w' (h' : RawAt w' lo hi s n cap (numR r1 st k)) => enter_any h' (a := a) (k := k) (z := z) (x := serOf st k) (t := t) hz.2.2.1 hz.2.2.2 ha1 ha2)
      clear ht ho hr1 hal htie hinv hl1 ha1 ha2 hz HTk
      go_wp2_with (first
        | (go_at_call 76; refine HN.out.mono ?_; rintro e w2 ⟨rfl, hr, ho⟩; have HR2 := hid_mk hr; have HO2 := hid_mk (HO1.out.trans ho); clear hr ho)
        | (go_at_call 75; refine (HE.out _ HR2.out).mono ?_; rintro e w3 ⟨⟨v3, rfl⟩, hr, ho⟩; have HR3 := hid_mk hr; have HO3 := hid_mk (HO2.out.trans ho); obtain ⟨s4, s5, s6, s7⟩ := flt_facts ((HO2.out.trans ho).heap HZ.out (.inr HT.out.1)); clear hr ho))
      refine retIF Tryz.results53 rfl rfl rfl (flt_set (HO3.out.heap HZ.out (.inr HT.out.1))) ?_
      rw [HAL.out]
      have h3 := HR3.out
      rw [HTie.out] at h3
      exact ⟨rfl, ⟨h3.kept ((Out.refl w.heap.size (w.heap.size + 1) _).set2 (.inl ⟨Nat.le_refl _, Nat.lt_succ_self _⟩) _ _) (.inl HT.out.1) (.inl HT.out.2.1), HInv.out⟩, ((H0.out.any lo hi).trans HO3.out).set2 (.inr (Nat.le_refl _)) _ _⟩
end
end Go.Proofs.YtcpignkjlnjjmaaGreatDoor
