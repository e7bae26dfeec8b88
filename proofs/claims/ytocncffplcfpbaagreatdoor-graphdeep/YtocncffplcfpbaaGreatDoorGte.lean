/- graph: a search in general: what it has met, what is still to come, what waits -/
import Derived.Test.YtocncffplcfpbaaGreatDoorGta
import Derived.Test.YtocncffplcfpbaaGreatDoorGrl
import Derived.Test.YtocncffplcfpbaaGreatDoorGrh
namespace Go.Proofs.YtocncffplcfpbaaGreatDoor
open Go.RowKit Go.MapKept
set_option linter.unusedVariables false
set_option linter.unusedSimpArgs false

def mF (M : List Int) (y : Int) : Option Value := if y ∈ M then some (.agg #[]) else none
theorem mF_up (M : List Int) (x : Int) : (fun y => if y = x then some (.agg #[]) else mF M y) = mF (M ++ [x]) := by
  funext y
  unfold mF
  by_cases h : y = x
  · subst h; simp
  · rw [if_neg h]
    by_cases h2 : y ∈ M
    · rw [if_pos h2, if_pos (by simp [h2])]
    · rw [if_neg h2, if_neg (by simp [h, h2])]
theorem mF_nil : mF [] = fun _ => none := by funext y; simp [mF]
abbrev iws (R : List Int) : List Value := R.map (Value.int .i64)
theorem iws_one (x : Int) : ∀ u ∈ [Value.int .i64 x], u.oneCell' = true := by intro u hu; simp at hu; subst hu; rfl
theorem own_ap {w : World} {E E' : TypeId} {b1 b2 s1 s2 n n' : Nat} {v v' : Value} {xs xs' : List Value} (h : w.ownsRow b1 E s1 v n xs) (h' : w.ownsRow b2 E' s2 v' n' xs') (hE : E ≠ E') {k : Nat} (hk : v.ownBlock = some k) : v'.ownBlock ≠ some k := by
  intro hk'
  rcases h.2 with ⟨rfl, _⟩ | ⟨g, c, cur, rfl, _, h3, _⟩
  · cases hk
  · rcases h'.2 with ⟨rfl, _⟩ | ⟨g', c', cur', rfl, _, h3', _⟩
    · cases hk'
    · cases hk
      have : g' = g := Option.some.inj hk'
      subst this
      rw [h3] at h3'
      cases h3'
      exact hE rfl
theorem own_ot {w : World} {E E' : TypeId} {base sz n k : Nat} {v : Value} {xs : List Value} {cs : Array Value} (h : w.ownsRow base E sz v n xs) (hb : Bl w k cs E') (hE : E' ≠ E) : v.ownBlock ≠ some k := by
  intro e
  rcases h.2 with ⟨rfl, _⟩ | ⟨g, c, cur, rfl, _, h3, _⟩
  · cases e
  · have : g = k := Option.some.inj e
    subst this
    unfold Bl at hb
    rw [h3] at hb
    cases hb
    exact hE rfl
theorem own_mp {w : World} {E : TypeId} {base sz n k : Nat} {v : Value} {xs : List Value} {f : Int → Option Value} (h : w.ownsRow base E sz v n xs) (hb : MpAt w k f) : v.ownBlock ≠ some k := by
  intro e
  obtain ⟨es, cl, hb, _⟩ := hb
  rcases h.2 with ⟨rfl, _⟩ | ⟨g, c, cur, rfl, _, h3, _⟩
  · cases e
  · have : g = k := Option.some.inj e
    subst this
    rw [h3] at hb
    cases hb
theorem bl_mp {w : World} {k g : Nat} {cs : Array Value} {T : TypeId} {f : Int → Option Value} (h : Bl w g cs T) (hb : MpAt w k f) : g ≠ k := by
  intro e
  subst e
  obtain ⟨es, cl, hb, _⟩ := hb
  unfold Bl at h
  rw [h] at hb
  cases hb
/-- block k is a row of values -/
def Vr (w : World) (k : Nat) : Prop := ∃ cs, w.heap[k]? = some (.cells cs 28 (0, 0))
theorem vr_bl {w : World} {k : Nat} {cs : Array Value} {T : TypeId} (h : Bl w k cs T) (hT : T ≠ 28) : ¬ Vr w k := by
  rintro ⟨c2, h2⟩
  unfold Bl at h
  rw [h] at h2
  cases h2
  exact hT rfl
theorem vr_mp {w : World} {k : Nat} {f : Int → Option Value} (h : MpAt w k f) : ¬ Vr w k := by
  rintro ⟨c2, h2⟩
  obtain ⟨es, cl, hb, _⟩ := h
  rw [hb] at h2
  cases h2
theorem vr_own {w : World} {E : TypeId} {base sz n k : Nat} {v : Value} {xs : List Value} (h : w.ownsRow base E sz v n xs) (hE : E ≠ 28) (hk : v.ownBlock = some k) : ¬ Vr w k := by
  rintro ⟨c2, h2⟩
  rcases h.2 with ⟨rfl, _⟩ | ⟨g, c, cur, rfl, _, h3, _⟩
  · cases hk
  · have : g = k := Option.some.inj hk
    subst this
    rw [h3] at h2
    cases h2
    exact hE rfl
/-- blocks of one's own that are no rows of values -/
def PF (B : Nat) (w : World) (k : Nat) : Prop := B ≤ k ∧ ¬ Vr w k
theorem PF.back {B k : Nat} {w w' : World} (x : Fx (PF B w) w w') (hk : k < w.heap.size) (h : PF B w' k) : PF B w k := by
  refine ⟨h.1, fun hv => h.2 ?_⟩
  obtain ⟨cs, hc⟩ := hv
  exact ⟨cs, x.heap hc (fun q => q.2 ⟨cs, hc⟩)⟩
theorem PF.then {B : Nat} {a b c : World} (x : Fx (PF B a) a b) (y : Fx (PF B b) b c) : Fx (PF B a) a c := x.then y (fun k hk q => PF.back x hk q)
/-- what waits lies in the map at gw -/
def WtAt (w : World) (B gw : Nat) (Wt : Int → List VP) : Prop :=
  ∃ f : Int → Option Value, MpAt w gw f ∧ (∀ k, f k = none → Wt k = []) ∧ ∀ k v, f k = some v → (∃ b c, v = .slice (some ⟨b, 0, none⟩) (Wt k).length c ∧ w.ownsRow B 28 2 v (Wt k).length (vcs (Wt k))) ∧ ∀ k' v', f k' = some v' → k' ≠ k → v'.ownBlock ≠ v.ownBlock
theorem WtAt.fx {S : Nat → Prop} {w w' : World} {B gw : Nat} {Wt : Int → List VP} (h : WtAt w B gw Wt) (x : Fx S w w') (h1 : ¬ S gw) (h2 : ∀ k, Vr w k → ¬ S k) : WtAt w' B gw Wt := by
  obtain ⟨f, f1, f2, f3⟩ := h
  refine ⟨f, f1.fx x h1, f2, fun k v hv => ⟨?_, (f3 k v hv).2⟩⟩
  obtain ⟨⟨b, c, rfl, ho⟩, _⟩ := f3 k v hv
  refine ⟨b, c, rfl, own_fx ho x (fun g hg => h2 g ?_)⟩
  rcases ho.2 with ⟨q, _⟩ | ⟨g', c', cur, q, _, h3, _⟩
  · cases q
  · cases q
    cases hg
    exact ⟨cur, h3⟩
theorem WtAt.quiet {w w' : World} {B gw : Nat} {Wt : Int → List VP} (h : WtAt w B gw Wt) (x : Out 0 0 w w') : WtAt w' B gw Wt := h.fx (S := fun _ => False) (Fx.of_out x) id (fun _ _ => id)
/-- the search at s -/
def SR (w : World) (B s gw : Nat) (M R : List Int) (Wt : Int → List VP) : Prop :=
  ∃ mv ra c, Bl w s #[mv, .slice ra R.length c, .map (some gw)] 78 ∧ B ≤ s ∧ B ≤ gw ∧ ((mv = .map none ∧ M = []) ∨ ∃ lm, mv = .map (some lm) ∧ B ≤ lm ∧ lm ≠ gw ∧ MpAt w lm (mF M)) ∧ w.ownsRow B 3 1 (.slice ra R.length c) R.length (iws R) ∧ WtAt w B gw Wt
theorem SR.quiet {w w' : World} {B s gw : Nat} {M R : List Int} {Wt : Int → List VP} (h : SR w B s gw M R Wt) (x : Out 0 0 w w') : SR w' B s gw M R Wt := by
  obtain ⟨mv, ra, c, a1, a2, a3, a4, a5, a6⟩ := h
  refine ⟨mv, ra, c, a1.kept x (.inr (Nat.zero_le _)), a2, a3, ?_, own_fx (S := fun _ => False) a5 (Fx.of_out x) (fun _ _ => id), a6.quiet x⟩
  rcases a4 with a4 | ⟨lm, b1, b2, b3, b4⟩
  · exact .inl a4
  · exact .inr ⟨lm, b1, b2, b3, b4.kept x (.inr (Nat.zero_le _))⟩
theorem SR.lt {w : World} {B s gw : Nat} {M R : List Int} {Wt : Int → List VP} (h : SR w B s gw M R Wt) : s < w.heap.size ∧ B ≤ s := by
  obtain ⟨mv, ra, c, a1, a2, _⟩ := h
  exact ⟨a1.lt, a2⟩
set_option maxHeartbeats 2000000 in
theorem has_any {W : World} {B s gw : Nat} {M R : List Int} {Wt : Int → List VP} (h : SR W B s gw M R Wt) (x : Int) :
    Calls Tryz.prog 79 #[.pointer (some ⟨s, 0, none⟩), .int .i64 x] W fun e w' => e = .returned (.bool (decide (x ∈ M))) ∧ Out 0 0 W w' := by
  obtain ⟨mv, ra, c, a1, a2, a3, a4, a5, a6⟩ := h
  rcases a4 with ⟨rfl, rfl⟩ | ⟨lm, rfl, b2, b3, b4⟩
  · have := has_nil (a1.cell (i := 0) rfl) x
    simpa using this
  · have c0 := a1.cell (i := 0) rfl
    have lk := mp_look true Tryz.underlying51 Tryz.underlying3 (zero_st _) b4 x
    rw [if_pos rfl] at lk
    have hi : (mF M x).isSome = decide (x ∈ M) := by unfold mF; split <;> simp_all
    have hg : (mF M x).getD (.agg #[]) = .agg #[] := by unfold mF; split <;> rfl
    rw [hi, hg] at lk
    clear a1 a5 a6 b4
    go_enter Tryz.func79, Tryz.ntmps79
    go_wp2_with fail
    go_ret
    exact ⟨rfl, (Out.refl 0 0 W).alloc _⟩
end Go.Proofs.YtocncffplcfpbaaGreatDoor
namespace Go.Proofs.YtocncffplcfpbaaGreatDoor
open Go.RowKit Go.MapKept
set_option linter.unusedVariables false
set_option linter.unusedSimpArgs false

theorem ne_IV : 3 ≠ 28 := by decide
theorem ne_SV : 78 ≠ 28 := by decide
theorem ne_SI : 78 ≠ 3 := by decide
/-- what a put writes: a row of numbers, the search, a map -/
theorem PF.mk' {B s lm : Nat} {W : World} {cs : Array Value} {n : Nat} {v : Value} {xs : List Value} {k : Nat} (hs : Bl W s cs 78) (hB : B ≤ s) (ho : W.ownsRow B 3 1 v n xs) (hm : lm < W.heap.size → B ≤ lm ∧ ¬ Vr W lm) (hk : k < W.heap.size) (h : k = s ∨ k = lm ∨ v.ownBlock = some k) : PF B W k := by
  rcases h with rfl | rfl | h
  · exact ⟨hB, vr_bl hs ne_SV⟩
  · exact hm hk
  · exact ⟨(own_ge ho h).1, vr_own ho ne_IV h⟩
/-- the number's own cell, then the longer row -/
theorem app_num {Y : World} {B n c : Nat} {ra : Option Addr} {R : List Int} (ho : Y.ownsRow B 3 1 (.slice ra n c) n (iws R)) (hB : B ≤ Y.heap.size) (hn : n ≤ 1000000) (x : Int) :
    ∃ a' cap' Z, (Builtin.append_ #[29, 29] 29 #[.slice ra n c, .slice (some ⟨Y.heap.size, 0, none⟩) 1 1]).run Tryz.prog (Y.alloc (.cells #[.int .i64 x] 3)) = .ok (.slice a' (n + 1) cap') Z ∧ Z.ownsRow B 3 1 (.slice a' (n + 1) cap') (n + 1) (iws (R ++ [x])) ∧ Fx (fun k => (Value.slice ra n c).ownBlock = some k) Y Z ∧ ((Value.slice a' (n + 1) cap').ownBlock = (Value.slice ra n c).ownBlock ∨ (Value.slice a' (n + 1) cap').ownBlock = some (Y.heap.size + 1)) := by
  have oE : Out 0 0 Y (Y.alloc (.cells #[.int .i64 x] 3)) := (Out.refl 0 0 Y).alloc _
  have b0 := Bl.new Y #[.int .i64 x] 3
  obtain ⟨a', cap', Z, q1, q2, q3, q4⟩ := app_at (w := Y.alloc (.cells #[.int .i64 x] 3)) (m := 1) (ys := [.int .i64 x]) (sa := some ⟨Y.heap.size, 0, none⟩) (c := 1) Tryz.underlying29 info_i rfl (by decide) (by decide) (own_fx (S := fun _ => False) ho (Fx.of_out oE) (fun _ _ => id)) (by rw [size_alloc]; omega) (.inr ⟨Y.heap.size, 0, rfl, fun j u hj => by
    cases j with
    | zero => simp at hj; subst hj; exact b0.cell (i := 0) rfl
    | succ j => simp at hj⟩) rfl (iws_one x) (by omega) (by omega) 29
  refine ⟨a', cap', Z, q1, by rw [show iws (R ++ [x]) = iws R ++ [.int .i64 x] by simp]; exact q2, (Fx.of_out oE).trans q3, by rw [size_alloc] at q4; exact q4⟩
set_option maxHeartbeats 4000000 in
set_option maxRecDepth 100000 in
theorem put_any {W : World} {B s gw : Nat} {M R : List Int} {Wt : Int → List VP} (h : SR W B s gw M R Wt) (hB : B ≤ W.heap.size) (hR : R.length ≤ 1000000) (x : Int) :
    Calls Tryz.prog 53 #[.pointer (some ⟨s, 0, none⟩), .int .i64 x] W fun e w' => e = .returned (.tuple #[]) ∧ SR w' B s gw (pt (M, R) x).1 (pt (M, R) x).2 Wt ∧ Fx (PF B W) W w' := by
  have HH := hid_mk (has_any h x)
  have H := hid_mk h
  by_cases hx : x ∈ M
  · have hd : decide (x ∈ M) = true := by simpa using hx
    rw [hd] at HH
    rw [show pt (M, R) x = (M, R) from if_pos hx]
    clear h hd
    go_enter Tryz.func53, Tryz.ntmps53
    go_wp2_with fail
    refine HH.out.mono ?_
    rintro e w1 ⟨rfl, o1⟩
    have HO := hid_mk (And.intro (H.out.quiet o1) (Fx.of_out (S := PF B W) o1))
    clear o1 HH
    go_wp2_with fail
    exact bodyPost_ret (results_none Tryz.results53 _ _ _) rfl ⟨rfl, HO.out⟩
  · have hd : decide (x ∈ M) = false := by simpa using hx
    rw [hd] at HH
    rw [show pt (M, R) x = (M ++ [x], R ++ [x]) from if_neg hx]
    clear h hd
    have hmm := @run_makeMap Tryz.prog
    have hme := map_eq
    obtain ⟨mv, ra, c, a1, a2, a3, a4, a5, a6⟩ := H.out
    have hRn : (iws R).length = R.length * 1 := by simp
    rcases a4 with ⟨rfl, rfl⟩ | ⟨lm, rfl, b2, b3, b4⟩
    · go_enter Tryz.func53, Tryz.ntmps53
      go_wp2_with fail
      refine HH.out.mono ?_
      rintro e w1 ⟨rfl, o1⟩
      have HX := hid_mk hx
      have s1 := a1.kept o1 (.inr (Nat.zero_le _))
      have r1 := own_fx (S := fun _ => False) a5 (Fx.of_out o1) (fun _ _ => id)
      have t1 := a6.quiet o1
      have c0 := s1.cell (i := 0) rfl
      have z0 := s1.frozen 0
      have hl := s1.lt
      have hB1 : B ≤ w1.heap.size := Nat.le_trans hB o1.size
      have HS := hid_mk (And.intro s1 (And.intro r1 (And.intro t1 (And.intro a2 (And.intro a3 (And.intro o1 (And.intro hB1 (And.intro a1 a5))))))))
      clear o1 HH hx a1 a5 a6 s1 r1 t1 hB hB1 H hRn a2 a3
      go_upto_region 3 with fail
      obtain ⟨X, hX⟩ : ∃ X, (w1.setCell ⟨s, 0, none⟩ (.map (some w1.heap.size))).alloc (.map #[] 0) = X := ⟨_, rfl⟩
      obtain ⟨m, hm⟩ : ∃ m, w1.heap.size = m := ⟨_, rfl⟩
      rw [hm] at hX
      rw [hm, hX]
      have xX : Fx (fun k => k = s) w1 X := hX ▸ (Fx.set (S := fun k => k = s) (Fx.refl _ w1) (p := ⟨s, 0, none⟩) (.inl rfl) _).alloc _
      have bX : Bl X s #[.map (some m), .slice ra R.length c, .map (some gw)] 78 := hX ▸ (HS.out.1.set 0 (.map (some m))).alloc _
      have mX : MpAt X m (fun _ => none) := by
        have := mp_new (w1.setCell ⟨s, 0, none⟩ (.map (some m)))
        rw [size_set, hm, hX] at this
        exact this
      obtain ⟨Y, r9, m9, y9⟩ := mp_put Tryz.underlying51 Tryz.underlying3 mX x (.agg #[])
      have mY : MpAt Y m (mF [x]) := m9.congr (fun a => by unfold mF; simp)
      have hsm : s < m := hm ▸ hl
      have bY := bX.kept y9 (.inl hsm)
      obtain ⟨s1, r1, t1, a2, a3, o1, hB1, a1, a5⟩ := HS.out
      have xY : Fx (fun k => k = s) w1 Y := xX.then (S' := fun k => k = m) ⟨y9.1, y9.2.1, y9.2.2.1, y9.size, fun k h1 h2 => y9.block h1 (by omega)⟩ (fun k h1 h2 => by omega)
      have oY := own_fx r1 xY (fun g hg e => own_ot r1 s1 ne_SI (e ▸ hg))
      have tY := t1.fx xY (fun e => (by obtain ⟨f, f1, _⟩ := t1; exact bl_mp s1 f1 e.symm)) (fun k hv e => vr_bl s1 ne_SV (e ▸ hv))
      have hBY : B ≤ Y.heap.size := Nat.le_trans hB1 xY.size
      obtain ⟨a', cap', Z, q1, q2, q3, -⟩ := app_num oY hBY hR x
      have c3 := bY.cell (i := 1) rfl
      have bE : Bl (Y.alloc (.cells #[.int .i64 x] 3)) s #[.map (some m), .slice ra R.length c, .map (some gw)] 78 := bY.alloc _
      have bZ := bY.fx q3 (fun e => own_ot oY bY ne_SI e)
      have z3 := bZ.frozen 1
      have c8 := bZ.cell (i := 1) rfl
      have HQ := hid_mk q1
      have c2 := bX.cell (i := 0) rfl
      have HE : Hid (SR (Z.setCell ⟨s, 1, none⟩ (.slice a' (R.length + 1) cap')) B s gw ([] ++ [x]) (R ++ [x]) Wt ∧ Fx (PF B W) W (Z.setCell ⟨s, 1, none⟩ (.slice a' (R.length + 1) cap'))) := by
        have xS : Fx (fun k => k = s) Z (Z.setCell ⟨s, 1, none⟩ (.slice a' (R.length + 1) cap')) := Fx.set (S := fun k => k = s) (Fx.refl _ Z) (p := ⟨s, 1, none⟩) (.inl rfl) _
        have mZ := mY.fx q3 (fun e => own_mp oY mY e)
        have tZ := tY.fx q3 (fun e => (by obtain ⟨f, f1, _⟩ := tY; exact own_mp oY f1 e)) (fun k hv e => vr_own oY ne_IV e hv)
        have x0 : Fx (fun k => k = s ∨ k = s ∨ (Value.slice ra R.length c).ownBlock = some k) W (Z.setCell ⟨s, 1, none⟩ (.slice a' (R.length + 1) cap')) :=
          (((Fx.of_out o1).trans (xY.wide (fun k _ e => .inl e))).trans (q3.wide (fun k _ e => .inr (.inr e)))).trans (xS.wide (fun k _ e => .inl e))
        refine hid_mk ⟨⟨_, a', cap', ?_, a2, a3, .inr ⟨m, rfl, ?_, ?_, ?_⟩, ?_, ?_⟩, x0.wide (fun k hk e => PF.mk' (lm := s) a1 a2 a5 (fun _ => ⟨a2, vr_bl a1 ne_SV⟩) hk e)⟩
        · have := bZ.set 1 (.slice a' (R.length + 1) cap')
          rw [List.length_append]
          exact this
        · omega
        · rintro rfl
          obtain ⟨f, f1, _⟩ := t1
          have := f1.lt
          omega
        · exact mZ.fx xS (fun e => bl_mp bZ mZ e.symm)
        · rw [List.length_append]
          exact own_fx q2 xS (fun g hg e => own_ot q2 bZ ne_SI (e ▸ hg))
        · exact tZ.fx xS (fun e => (by obtain ⟨f, f1, _⟩ := tZ; exact bl_mp bZ f1 e.symm)) (fun k hv e => vr_bl bZ ne_SV (e ▸ hv))
      clear hX hm xX bX mX m9 y9 bY HS c0 z0 hl hmm hme hsm mY xY oY tY hBY q1 q2 q3 bE bZ s1 r1 t1 a2 a3 o1 hB1 a1 a5 HX
      go_wp2_with (at_builtin; refine app_st rfl _ _ _ _ rfl rfl rfl HQ.out ?_)
      exact bodyPost_end (results_none Tryz.results53 _ _ _) rfl ⟨rfl, HE.out⟩
    · have hne : ∀ w : World, (binOp .eql 51 (.map (some lm)) (.map none)).run Tryz.prog w = .ok (.bool false) w := fun w => by kernel_rfl
      go_enter Tryz.func53, Tryz.ntmps53
      go_wp2_with fail
      refine HH.out.mono ?_
      rintro e w1 ⟨rfl, o1⟩
      have s1 := a1.kept o1 (.inr (Nat.zero_le _))
      have r1 := own_fx (S := fun _ => False) a5 (Fx.of_out o1) (fun _ _ => id)
      have t1 := a6.quiet o1
      have m1 := b4.kept o1 (.inr (Nat.zero_le _))
      have c0 := s1.cell (i := 0) rfl
      have hB1 : B ≤ w1.heap.size := Nat.le_trans hB o1.size
      obtain ⟨Y, r9, m9, y9⟩ := mp_put Tryz.underlying51 Tryz.underlying3 m1 x (.agg #[])
      rw [mF_up] at m9
      have hsl := bl_mp s1 m1
      have xY : Fx (fun k => k = lm) w1 Y := ⟨y9.1, y9.2.1, y9.2.2.1, y9.size, fun k h1 h2 => y9.block h1 (by omega)⟩
      have bY := s1.fx xY hsl
      have oY := own_fx r1 xY (fun g hg e => own_mp r1 m1 (e ▸ hg))
      have tY := t1.fx xY (fun e => b3 e.symm) (fun k hv e => vr_mp m1 (e ▸ hv))
      have hBY : B ≤ Y.heap.size := Nat.le_trans hB1 xY.size
      obtain ⟨a', cap', Z, q1, q2, q3, -⟩ := app_num oY hBY hR x
      have c3 := bY.cell (i := 1) rfl
      have bZ := bY.fx q3 (fun e => own_ot oY bY ne_SI e)
      have z3 := bZ.frozen 1
      have c8 := bZ.cell (i := 1) rfl
      have HQ := hid_mk q1
      have HE : Hid (SR (Z.setCell ⟨s, 1, none⟩ (.slice a' (R.length + 1) cap')) B s gw (M ++ [x]) (R ++ [x]) Wt ∧ Fx (PF B W) W (Z.setCell ⟨s, 1, none⟩ (.slice a' (R.length + 1) cap'))) := by
        have xS : Fx (fun k => k = s) Z (Z.setCell ⟨s, 1, none⟩ (.slice a' (R.length + 1) cap')) := Fx.set (S := fun k => k = s) (Fx.refl _ Z) (p := ⟨s, 1, none⟩) (.inl rfl) _
        have mZ := m9.fx q3 (fun e => own_mp oY m9 e)
        have tZ := tY.fx q3 (fun e => (by obtain ⟨f, f1, _⟩ := tY; exact own_mp oY f1 e)) (fun k hv e => vr_own oY ne_IV e hv)
        have x0 : Fx (fun k => k = s ∨ k = lm ∨ (Value.slice ra R.length c).ownBlock = some k) W (Z.setCell ⟨s, 1, none⟩ (.slice a' (R.length + 1) cap')) :=
          (((Fx.of_out o1).trans (xY.wide (fun k _ e => .inr (.inl e)))).trans (q3.wide (fun k _ e => .inr (.inr e)))).trans (xS.wide (fun k _ e => .inl e))
        refine hid_mk ⟨⟨_, a', cap', ?_, a2, a3, .inr ⟨lm, rfl, b2, b3, ?_⟩, ?_, ?_⟩, x0.wide (fun k hk e => PF.mk' a1 a2 a5 (fun _ => ⟨b2, vr_mp b4⟩) hk e)⟩
        · have := bZ.set 1 (.slice a' (R.length + 1) cap')
          rw [List.length_append]
          exact this
        · exact mZ.fx xS (fun e => bl_mp bZ mZ e.symm)
        · rw [List.length_append]
          exact own_fx q2 xS (fun g hg e => own_ot q2 bZ ne_SI (e ▸ hg))
        · exact tZ.fx xS (fun e => (by obtain ⟨f, f1, _⟩ := tZ; exact bl_mp bZ f1 e.symm)) (fun k hv e => vr_bl bZ ne_SV (e ▸ hv))
      clear m9 y9 bY H HH hmm hme xY oY tY hBY q1 q2 q3 bZ s1 r1 t1 a2 a3 o1 hB1 a1 a5 a6 m1 hsl b2 b3 b4 hx hRn hB
      go_wp2_with (at_builtin; refine app_st rfl _ _ _ _ rfl rfl rfl HQ.out ?_)
      exact bodyPost_end (results_none Tryz.results53 _ _ _) rfl ⟨rfl, HE.out⟩
theorem take_nil {W : World} {B s gw : Nat} {M : List Int} {Wt : Int → List VP} (h : SR W B s gw M [] Wt) : Calls Tryz.prog 31 #[.pointer (some ⟨s, 0, none⟩)] W fun e w' => e = .returned (.tuple #[.int .i64 0, .bool false]) ∧ w' = W := by
  obtain ⟨mv, ra, c, a1, _⟩ := h
  exact take_none (a1.cell (i := 1) rfl)
theorem own_top {w : World} {B c : Nat} {ra : Option Addr} {R : List Int} {x : Int} (h : w.ownsRow B 3 1 (.slice ra (R ++ [x]).length c) (R ++ [x]).length (iws (R ++ [x]))) : ∃ b, ra = some ⟨b, 0, none⟩ ∧ R.length + 1 ≤ c ∧ w.cell? ⟨b, R.length, none⟩ = some (.int .i64 x) ∧ w.ownsRow B 3 1 (.slice ra R.length c) R.length (iws R) := by
  rw [show (R ++ [x]).length = R.length + 1 by simp, show iws (R ++ [x]) = iws R ++ [.int .i64 x] by simp] at h
  obtain ⟨g, cur, rfl, h2, h3, h4, h5, h6, h7, h8⟩ := own_cellsX h (by omega)
  refine ⟨g, rfl, h6, h3 R.length _ ?_, own_part h (by simp)⟩
  rw [List.getElem?_append_right (by simp)]
  simp
theorem sub_one (n : Nat) (h : n ≤ 1000000) : wrap64 (((n + 1 : Nat) : Int) - 1) = (n : Int) := by unfold wrap64; omega
set_option maxRecDepth 100000 in
set_option maxHeartbeats 4000000 in
theorem take_some {W : World} {B s gw : Nat} {M R : List Int} {Wt : Int → List VP} {x : Int} (h : SR W B s gw M (R ++ [x]) Wt) (hR : R.length ≤ 1000000) : Calls Tryz.prog 31 #[.pointer (some ⟨s, 0, none⟩)] W fun e w' => e = .returned (.tuple #[.int .i64 x, .bool true]) ∧ SR w' B s gw M R Wt ∧ Fx (PF B W) W w' := by
  obtain ⟨mv, ra, c, a1, a2, a3, a4, a5, a6⟩ := h
  obtain ⟨b, rfl, hc, hb, ho⟩ := own_top a5
  obtain ⟨n, hn⟩ : ∃ n, R.length = n := ⟨_, rfl⟩
  rw [show (R ++ [x]).length = n + 1 by simp [hn]] at a1
  rw [hn] at hc hb hR
  have c1 := a1.cell (i := 1) rfl
  have HS := hid_mk a1
  have hw := sub_one n hR
  have h0 : (((n + 1 : Nat) : Int) == 0) = false := by simp; omega
  have l1 : (n : Int) < ((n + 1 : Nat) : Int) := by omega
  have l2 : (n : Int) < (n : Int) + 1 := by omega
  have l3 : (n : Int) ≤ (c : Int) := by omega
  have l4 : n ≤ c := by omega
  have HE : Hid (SR (W.setCell ⟨s, 1, none⟩ (.slice (some ⟨b, 0, none⟩) n c)).drew B s gw M R Wt ∧ Fx (PF B W) W (W.setCell ⟨s, 1, none⟩ (.slice (some ⟨b, 0, none⟩) n c)).drew) := by
    have xS : Fx (fun k => k = s) W (W.setCell ⟨s, 1, none⟩ (.slice (some ⟨b, 0, none⟩) n c)).drew := (Fx.set (S := fun k => k = s) (Fx.refl _ W) (p := ⟨s, 1, none⟩) (.inl rfl) _).drew
    refine hid_mk ⟨⟨mv, some ⟨b, 0, none⟩, c, ?_, a2, a3, ?_, own_fx ho xS (fun g hg e => own_ot ho a1 ne_SI (e ▸ hg)), a6.fx xS (fun e => (by obtain ⟨f, f1, _⟩ := a6; exact bl_mp a1 f1 e.symm)) (fun k hv e => vr_bl a1 ne_SV (e ▸ hv))⟩, xS.wide (fun k _ e => ?_)⟩
    · rw [hn]
      exact (a1.set 1 (.slice (some ⟨b, 0, none⟩) n c)).kept ((Out.refl 0 0 _).drew) (.inr (Nat.zero_le _))
    · rcases a4 with a4 | ⟨lm, q1, q2, q3, q4⟩
      · exact .inl a4
      · exact .inr ⟨lm, q1, q2, q3, q4.fx xS (fun e => bl_mp a1 q4 e.symm)⟩
    · subst e
      exact ⟨a2, vr_bl a1 ne_SV⟩
  clear a1 a4 a5 a6 ho a2 a3
  go_enter Tryz.func31, Tryz.ntmps31
  go_upto_region 5 with fail
  refine wp_region_T (S := fun w' => w'.cell? ⟨s, 1, none⟩ = some (.slice (some ⟨b, 0, none⟩) (n + 1) c) ∧ w'.cell? ⟨b, n, none⟩ = some (.int .i64 x)) (z := 17) (by kernel_rfl) ?hS1 (fun hHeld => ?rest1)
  case hS1 => exact ⟨c1, hb⟩
  refine tkT 0 ?_
  refine tkT 1 ?_
  refine tkT 2 ?_
  refine tkT 3 ?_
  refine tkT 4 ?_
  refine tkT 5 ?_
  refine tkT 6 ?_
  refine tkT 7 ?_
  refine tkT 8 ?_
  refine tkT 9 ?_
  refine tkT 10 ?_
  refine tkT 11 ?_
  refine tkT 12 ?_
  refine tkT 13 ?_
  refine tkT 14 ?_
  refine wpAnyT_one (i := 15) (by kernel_rfl) rfl (fun KK hK => ?_)
  simp only [xa, xb, xc]
  go_simp
  refine hK.out _ _ ?hS17 (fun hHeld2 => ?rest17)
  case hS17 => exact hHeld
  clear hK KK
  (try clear hHeld)
  have hHeld := hHeld2
  clear hHeld2
  (try simp only [Act.put, xa, xb, xc, xd, xe, xf])
  refine tkT 16 ?_
  refine wpAnyT_last (by kernel_rfl) rfl (fun KK hK => ?_)
  simp only [xa, xb, xc]
  have z9 := HS.out.frozen 1
  go_simp
  refine hK.out _ _ ?_
  clear hK KK
  (try simp only [Act.put, xa, xb, xc, xd, xe, xf])
  refine wpAnyT_done (by kernel_rfl) ?_ _
  clear hHeld c1 hb
  go_wp2
  go_ret2
  exact ⟨rfl, HE.out⟩
end Go.Proofs.YtocncffplcfpbaaGreatDoor
namespace Go.Proofs.YtocncffplcfpbaaGreatDoor
open Go.RowKit Go.MapKept
set_option linter.unusedVariables false
set_option linter.unusedSimpArgs false

theorem mt_len (l : List VP) (p : List Int × List Int) : (mt l p).2.length ≤ p.2.length + l.length := by
  induction l generalizing p with
  | nil => simp [mt_nil]
  | cons v l ih =>
    rw [mt_cons]
    refine Nat.le_trans (ih _) ?_
    split
    · unfold pt
      split
      · simp
      · simp; omega
    · simp
theorem mt_take {l : List VP} {i : Nat} {v : VP} (h : l[i]? = some v) (p : List Int × List Int) : mt (l.take (i + 1)) p = if v.1 = 2 then pt (mt (l.take i) p) v.2 else mt (l.take i) p := by
  rw [List.take_add_one, h]
  exact mt_snoc _ _ _
set_option maxRecDepth 100000 in
set_option maxHeartbeats 4000000 in
theorem meet_any {W : World} {B s gw : Nat} {M R : List Int} {Wt : Int → List VP} (h : SR W B s gw M R Wt) (hB : B ≤ W.heap.size) (fa : Option Addr) (nf fc : Nat) (l : List VP) (hl : l.length = nf) (hn : R.length + nf ≤ 1000000) (hf : VsAt W fa l) (hfa : ∀ q, fa = some q → q.block < B ∨ Vr W q.block) :
    Calls Tryz.prog 30 #[.pointer (some ⟨s, 0, none⟩), .slice fa nf fc] W fun e w' => e = .returned (.tuple #[]) ∧ SR w' B s gw (mt l (M, R)).1 (mt l (M, R)).2 Wt ∧ Fx (PF B W) W w' := by
  have HH := hid_mk (And.intro hl (And.intro hn (And.intro hf (And.intro hfa hB))))
  have H0 : Hid (SR W B s gw (mt (l.take 0) (M, R)).1 (mt (l.take 0) (M, R)).2 Wt ∧ Fx (PF B W) W W) := hid_mk ⟨h, Fx.refl _ _⟩
  clear hf hfa hl hn h hB
  go_enter Tryz.func30, Tryz.ntmps30
  go_wp2_with fail
  go_loopw [8] (fun c wr => ∃ i : Nat, c = .int .i64 i ∧ i ≤ nf ∧ SR wr B s gw (mt (l.take i) (M, R)).1 (mt (l.take i) (M, R)).2 Wt ∧ Fx (PF B W) W wr) (fun c _ => nf - (intOf c).toNat)
  case atStart => exact ⟨0, rfl, Nat.zero_le _, H0.out⟩
  case round =>
    obtain ⟨i, rfl, him, hS, hX⟩ := hrel
    by_cases hgo : i < nf
    · obtain ⟨l1, l2⟩ := lt_d hgo
      obtain ⟨hl, hn, hf, hfa, hB⟩ := HH.out
      obtain ⟨⟨k, x⟩, hv⟩ : ∃ v, l[i]? = some v := ⟨_, List.getElem?_eq_getElem (by omega)⟩
      have ht := mt_take hv (M, R)
      have hlen := mt_len (l.take i) (M, R)
      rw [List.length_take] at hlen
      obtain ⟨⟨M1, R1⟩, hmr⟩ : ∃ q, mt (l.take i) (M, R) = q := ⟨_, rfl⟩
      rw [hmr] at ht hS hlen
      simp only [] at ht hS hlen
      have hR1 : R1.length ≤ 1000000 := by omega
      obtain ⟨gf, off, rfl, d0, d1⟩ := (hf.fx hX (fun q hq e => by rcases hfa q hq with g | g; exact absurd e.1 (by omega); exact e.2 g)).at hv
      simp only at d0 d1
      have hBr : B ≤ wr.heap.size := Nat.le_trans hB hX.size
      have lmi : (i : Int) < (nf : Int) := by omega
      have hnf : nf ≤ 1000000 := by omega
      by_cases hk : k = 2
      · subst hk
        rw [if_pos rfl] at ht
        have HT := hid_mk (And.intro ht (And.intro hgo hnf))
        have HS := hid_mk (And.intro hS (And.intro hX hBr))
        have HR1 := hid_mk hR1
        clear hl hn hf hfa hv him hgo hS hX hB hBr hlen hR1 hmr ht hnf
        go_upto_region 4 with fail
        obtain ⟨A, hA⟩ : ∃ A, wr.alloc (.cells #[.int .i64 2, .int .i64 x] 28) = A := ⟨_, rfl⟩
        obtain ⟨p, hp⟩ : ∃ p, wr.heap.size = p := ⟨_, rfl⟩
        have oA : Out 0 0 wr A := hA ▸ (Out.refl 0 0 _).alloc _
        have bA : Bl A p #[.int .i64 2, .int .i64 x] 28 := by rw [← hA, ← hp]; exact Bl.new _ _ _
        have e1 := bA.cell (i := 1) rfl
        rw [hA, hp]
        have HP := hid_mk (put_any (HS.out.1.quiet oA.drew) (Nat.le_trans HS.out.2.2 oA.drew.size) HR1.out x)
        have HQ : Hid (Fx (PF B W) W A.drew ∧ ¬ PF B A.drew p) := hid_mk ⟨HS.out.2.1.trans (Fx.of_out oA.drew), fun q => q.2 ⟨_, bA⟩⟩
        clear hA hp d0 d1 oA bA HS
        refine wp_region_held_drew (S := fun w' => w'.cell? ⟨p, 1, none⟩ = some (.int .i64 x)) (by kernel_rfl) ?hS1 (fun hHeld => ?rest1)
        case hS1 => exact e1
        refine tk 0 ?_
        refine tk 1 ?_
        refine tk 2 ?_
        refine tk 3 ?_
        refine tk 4 ?_
        refine wpAnyH_ready (rs := [5]) (by kernel_rfl) (by simp) ?_
        refine AllReadyH.cons rfl (fun KK hK => ?_) AllReadyH.nil
        simp only [xa, xb, xc]
        go_simp
        refine HP.out.mono ?_
        rintro e w5 ⟨rfl, h5, x5⟩
        refine hK.out _ _ ?hS7 (fun hHeld2 => ?rest7)
        case hS7 => exact x5.cell (w := A.drew) e1 HQ.out.2
        clear hK KK
        (try clear hHeld)
        have hHeld := hHeld2
        clear hHeld2
        (try simp only [Act.put, xa, xb, xc, xd, xe, xf])
        refine wpAnyH_done (by kernel_rfl) ?_ _
        have HM := hid_mk (And.intro h5 (PF.then HQ.out.1 x5))
        clear h5 x5 hHeld e1 HP HQ HR1
        go_wp2
        exact ⟨⟨i + 1, up_v HT.out.2.1 HT.out.2.2, HT.out.2.1, by rw [HT.out.1]; exact HM.out⟩, by rw [up_w HT.out.2.1 HT.out.2.2]; exact ms_n HT.out.2.1⟩
      · rw [if_neg hk] at ht
        have hk' : (k == 2) = false := by simpa using hk
        have oA : Out 0 0 wr (wr.alloc (.cells #[.int .i64 k, .int .i64 x] 28)) := (Out.refl 0 0 _).alloc _
        have HI := hid_mk (And.intro ht (And.intro hgo (And.intro hnf (And.intro (hS.quiet oA) (hX.trans (Fx.of_out oA))))))
        clear hl hn hf hfa hv him hgo hS hX hB hBr hlen hR1 hmr ht hnf oA
        go_wp2_with fail
        exact ⟨⟨i + 1, up_v HI.out.2.1 HI.out.2.2.1, HI.out.2.1, by rw [HI.out.1]; exact HI.out.2.2.2⟩, by rw [up_w HI.out.2.1 HI.out.2.2.1]; exact ms_n HI.out.2.1⟩
    · obtain rfl : nf = i := by omega
      have l1 : decide ((nf : Int) < (nf : Int)) = false := by simp
      rw [List.take_of_length_le (by have := HH.out.1; omega)] at hS
      have HO2 := hid_mk (And.intro hS hX)
      clear hgo him hS hX HH H0
      go_wp2_with fail
      exact bodyPost_end (results_none Tryz.results30 _ _ _) rfl ⟨rfl, HO2.out⟩
end Go.Proofs.YtocncffplcfpbaaGreatDoor
namespace Go.Proofs.YtocncffplcfpbaaGreatDoor
open Go.RowKit Go.MapKept
set_option linter.unusedVariables false
set_option linter.unusedSimpArgs false

theorem app_runs (w : World) {o : Oper} {a : Act} {K : Act → World → Prop} {Q : Exit → Act → World → Prop} (d s : Operand) (t t' : TypeId)
    (ho : o.op = .call { callee := .builtin .append, args := #[d, s], argTypes := #[t, t'] }) (v u : Value) (hd : a.eval d = v) (hs : a.eval s = u) {v' : Value} {w' : World}
    (hr : (Builtin.append_ #[t, t'] o.type #[v, u]).run Tryz.prog w = .ok v' w') (h : K (a.put o.dst v') w') : o.wp Tryz.prog a w K Q := by
  unfold Oper.wp execOp
  simp only [ho, resolve, invoke, builtin, Sem.run_bind, Sem.run_pure, Result.andThen_ok, List.map_toArray, List.map_cons, List.map_nil, hd, hs, hr]
  exact h
theorem vcs_snoc (l : List VP) (v : VP) : vcs (l ++ [v]) = vcs l ++ [.int .i64 v.1, .int .i64 v.2] := by unfold vcs; simp
/-- what waits for x -/
theorem WtAt.row {w : World} {B gw : Nat} {Wt : Int → List VP} (h : WtAt w B gw Wt) (x : Int) : ∃ ra c, w.ownsRow B 28 2 (.slice ra (Wt x).length c) (Wt x).length (vcs (Wt x)) ∧ (∀ w', Out 0 0 w w' → (Instr.lookup 74 (.map (some gw)) (.int .i64 x) false).run Tryz.prog w' = .ok (.slice ra (Wt x).length c) w') ∧
    ∃ f : Int → Option Value, MpAt w gw f ∧ (∀ k, f k = none → Wt k = []) ∧ (∀ k v, f k = some v → (∃ b c, v = .slice (some ⟨b, 0, none⟩) (Wt k).length c ∧ w.ownsRow B 28 2 v (Wt k).length (vcs (Wt k))) ∧ ∀ k' v', f k' = some v' → k' ≠ k → v'.ownBlock ≠ v.ownBlock) ∧ ∀ k v, f k = some v → k ≠ x → ∀ g, v.ownBlock = some g → (Value.slice ra (Wt x).length c).ownBlock ≠ some g := by
  obtain ⟨f, f1, f2, f3⟩ := h
  cases hfx : f x with
  | none =>
    have hW := f2 x hfx
    refine ⟨none, 0, by rw [hW]; exact ⟨by simp [vcs], .inl ⟨rfl, rfl⟩⟩, fun w' o => ?_, f, f1, f2, f3, fun k v hv hk g hg e => by cases e⟩
    have lk := mp_look false Tryz.underlying74 Tryz.underlying3 (zero_vs _) (f1.kept o (.inr (Nat.zero_le _))) x
    rw [if_neg (by simp), hfx] at lk
    rw [hW]
    exact lk
  | some v =>
    obtain ⟨⟨b, c, rfl, ho⟩, ha⟩ := f3 x v hfx
    refine ⟨some ⟨b, 0, none⟩, c, ho, fun w' o => ?_, f, f1, f2, f3, fun k v hv hk g hg e => ha k v hv hk (hg.trans e.symm)⟩
    have lk := mp_look false Tryz.underlying74 Tryz.underlying3 (zero_vs _) (f1.kept o (.inr (Nat.zero_le _))) x
    rw [if_neg (by simp), hfx] at lk
    exact lk
theorem ne_VS : 28 ≠ 78 := by decide
theorem ne_VI : 28 ≠ 3 := by decide
/-- one value more waits for x -/
theorem wait_run {w0 w : World} {B s gw : Nat} {M R : List Int} {Wt : Int → List VP} (h : SR w0 B s gw M R Wt) (hB : B ≤ w0.heap.size) (o : Out 0 0 w0 w) (x a b : Int) (hW : (Wt x).length ≤ 1000000) :
    ∃ ra c, (∀ k, (Value.slice ra (Wt x).length c).ownBlock = some k → k < w0.heap.size) ∧ (∀ w', Out 0 0 w w' → (Instr.lookup 74 (.map (some gw)) (.int .i64 x) false).run Tryz.prog w' = .ok (.slice ra (Wt x).length c) w') ∧
      ∃ a' cap' Z Y, (Builtin.append_ #[24, 24] 24 #[.slice ra (Wt x).length c, .slice (some ⟨w.heap.size, 0, none⟩) 1 1]).run Tryz.prog (w.alloc (.cells #[.int .i64 a, .int .i64 b] 28)) = .ok (.slice a' ((Wt x).length + 1) cap') Z ∧ Fx (fun k => (Value.slice ra (Wt x).length c).ownBlock = some k) w Z ∧ (Value.slice ra (Wt x).length c).ownBlock ≠ some s ∧ (Instr.lookup 74 (.map (some gw)) (.int .i64 x) false).run Tryz.prog Z = .ok (.slice ra (Wt x).length c) Z ∧
        (Instr.mapUpdate 74 (.map (some gw)) (.int .i64 x) (.slice a' ((Wt x).length + 1) cap')).run Tryz.prog Z = .ok () Y ∧ SR Y B s gw M R (upW Wt x (a, b)) ∧ Fx (fun k => B ≤ k) w Y := by
  have h1 := h.quiet o
  obtain ⟨mv0, ra0, c0, _, _, _, _, _, t0⟩ := h
  obtain ⟨ra', c', ow0, _, _⟩ := t0.row x
  obtain ⟨mv, rr, cr, a1, a2, a3, a4, a5, a6⟩ := h1
  obtain ⟨ra, c, ow, lk, f, f1, f2, f3, f4⟩ := a6.row x
  have hlt : ∀ k, (Value.slice ra (Wt x).length c).ownBlock = some k → k < w0.heap.size := by
    have e1 := lk w (Out.refl _ _ _)
    obtain ⟨ra2, c2, ow2, lk2, _⟩ := t0.row x
    have e2 := lk2 w o
    rw [e1] at e2
    cases e2
    exact fun k hk => (own_ge ow2 hk).2
  have oE : Out 0 0 w (w.alloc (.cells #[.int .i64 a, .int .i64 b] 28)) := (Out.refl 0 0 w).alloc _
  have b0 := Bl.new w #[.int .i64 a, .int .i64 b] 28
  have hBw : B ≤ w.heap.size := Nat.le_trans hB o.size
  obtain ⟨a', cap', Z, q1, q2, q3, q4⟩ := app_at (w := w.alloc (.cells #[.int .i64 a, .int .i64 b] 28)) (m := 1) (ys := [.int .i64 a, .int .i64 b]) (sa := some ⟨w.heap.size, 0, none⟩) (c := 1) Tryz.underlying24 info_v rfl (by decide) (by decide) (own_fx (S := fun _ => False) ow (Fx.of_out oE) (fun _ _ => id)) (by rw [size_alloc]; omega) (.inr ⟨w.heap.size, 0, rfl, fun j u hj => by
    cases j with
    | zero => simp at hj; subst hj; exact b0.cell (i := 0) rfl
    | succ j =>
      cases j with
      | zero => simp at hj; subst hj; exact b0.cell (i := 1) rfl
      | succ j => simp at hj⟩) rfl (by intro u hu; simp at hu; rcases hu with rfl | rfl <;> rfl) (by omega) (by omega) 24
  have xZ : Fx (fun k => (Value.slice ra (Wt x).length c).ownBlock = some k) w Z := (Fx.of_out oE).trans q3
  have fZ := f1.fx xZ (fun e => own_mp ow f1 e)
  obtain ⟨Y, r9, m9, y9⟩ := mp_put Tryz.underlying74 Tryz.underlying3 fZ x (.slice a' ((Wt x).length + 1) cap')
  have lkZ : (Instr.lookup 74 (.map (some gw)) (.int .i64 x) false).run Tryz.prog Z = .ok (.slice ra (Wt x).length c) Z := by
    have e1 := lk w (Out.refl _ _ _)
    have l1 := mp_look false Tryz.underlying74 Tryz.underlying3 (zero_vs w) f1 x
    have l2 := mp_look false Tryz.underlying74 Tryz.underlying3 (zero_vs Z) fZ x
    rw [l1] at e1
    rw [l2]
    rw [if_neg (by simp)] at e1 ⊢
    cases hv : (f x).getD (.slice none 0 0) <;> rw [hv] at e1 <;> cases e1 <;> rfl
  have xY : Fx (fun k => k = gw) Z Y := ⟨y9.1, y9.2.1, y9.2.2.1, y9.size, fun k h1 h2 => y9.block h1 (by omega)⟩
  refine ⟨ra, c, hlt, lk, a', cap', Z, Y, q1, xZ, own_ot ow a1 ne_SV, lkZ, r9, ⟨mv, rr, cr, ?_, a2, a3, ?_, ?_, ?_⟩, ?_⟩
  · exact (a1.fx xZ (fun e => own_ot ow a1 ne_SV e)).fx xY (bl_mp a1 f1)
  · rcases a4 with a4 | ⟨lm, e1, e2, e3, e4⟩
    · exact .inl a4
    · exact .inr ⟨lm, e1, e2, e3, (e4.fx xZ (fun e => own_mp ow e4 e)).fx xY e3⟩
  · refine own_fx (own_fx a5 xZ (fun g hg e => own_ap ow a5 ne_VI e hg)) xY (fun g hg e => own_mp a5 f1 (e ▸ hg))
  · have own' := own_fx q2 xY (fun g hg e => own_mp q2 fZ (e ▸ hg))
    have hnew : ∀ k v, f k = some v → k ≠ x → ∀ g, v.ownBlock = some g → (Value.slice a' ((Wt x).length + 1) cap').ownBlock ≠ some g := by
      intro k v hv hk g hg e
      rcases q4 with q4 | q4
      · exact f4 k v hv hk g hg (q4.symm.trans e)
      · rw [q4] at e
        obtain ⟨⟨b2, c2, rfl, ho2⟩, _⟩ := f3 k v hv
        have := (own_ge ho2 hg).2
        rw [size_alloc] at e
        cases e
        omega
    refine ⟨_, m9, fun k hk => ?_, fun k v hv => ?_⟩
    · unfold upW
      by_cases e : k = x
      · rw [if_pos e] at hk; cases hk
      · rw [if_neg e] at hk ⊢; exact f2 k hk
    · by_cases e : k = x
      · subst e
        rw [if_pos rfl] at hv
        cases hv
        rw [show upW Wt k (a, b) k = Wt k ++ [(a, b)] from if_pos rfl, List.length_append, vcs_snoc]
        obtain ⟨gb, cur, rfl, -⟩ := own_cellsX q2 (by omega)
        refine ⟨⟨gb, cap', rfl, own'⟩, fun k' v' hv' hne => ?_⟩
        rw [if_neg hne] at hv'
        obtain ⟨⟨b2, c2, rfl, ho2⟩, _⟩ := f3 k' v' hv'
        intro e
        exact hnew k' _ hv' hne b2 rfl e.symm
      · rw [if_neg e] at hv
        rw [show upW Wt x (a, b) k = Wt k from if_neg e]
        obtain ⟨⟨b2, c2, rfl, ho2⟩, hap⟩ := f3 k v hv
        refine ⟨⟨b2, c2, rfl, own_fx (own_fx ho2 xZ (fun g hg e2 => f4 k _ hv e g hg e2)) xY (fun g hg e2 => own_mp ho2 f1 (e2 ▸ hg))⟩, fun k' v' hv' hne => ?_⟩
        by_cases e' : k' = x
        · rw [if_pos e'] at hv'
          cases hv'
          intro e3
          exact hnew k _ hv e b2 rfl e3
        · rw [if_neg e'] at hv'
          exact hap k' v' hv' hne
  · exact (xZ.wide (fun k hk e => (own_ge ow e).1)).trans (xY.wide (fun k hk e => e ▸ a3))
end Go.Proofs.YtocncffplcfpbaaGreatDoor
