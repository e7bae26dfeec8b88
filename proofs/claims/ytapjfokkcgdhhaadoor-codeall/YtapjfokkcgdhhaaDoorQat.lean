import Derived.Test.YtapjfokkcgdhhaaDoorQar
namespace Go.Proofs.YtapjfokkcgdhhaaDoor
open Go.RowKit
set_option linter.unusedVariables false
set_option linter.unusedSimpArgs false

theorem mk_ap {T E : TypeId} {z : Value} {sz by_ : Nat} (hT : Tryd.prog.underlying T = some (.slice E)) (hinf : (Tryd.prog.info? E).map (fun i => (i.zero, i.size, i.bytes)) = some (some z, sz, by_)) (hz : z.cells.size = sz) (hsz : 0 < sz) (hby : by_ ≤ 1000) {w : World} {base K cap m c p : Nat} {ta : Option Addr} {xs zs : List Value} (hown : w.ownsRow base E sz (.slice ta K cap) K xs) (hbase : base ≤ w.heap.size) (hp : Bl w p zs.toArray E) (hl : zs.length = m * sz) (h1 : ∀ u ∈ zs, u.oneCell' = true) (hK : K ≤ 2000000) (hm : 0 < m) (hm2 : m ≤ 2000000) (ty : TypeId) :
    ∃ g cap' w', (Builtin.append_ #[T, T] ty #[.slice ta K cap, .slice (some ⟨p, 0, none⟩) m c]).run Tryd.prog w = .ok (.slice (some ⟨g, 0, none⟩) (K + m) cap') w' ∧ w'.ownsRow base E sz (.slice (some ⟨g, 0, none⟩) (K + m) cap') (K + m) (xs ++ zs) ∧ Fx (fun k => (Value.slice ta K cap).ownBlock = some k) w w' ∧ ((Value.slice ta K cap).ownBlock = some g ∨ w.heap.size ≤ g) := by
  obtain ⟨a', cap', w', q1, q2, q3, q4⟩ := app_at hT hinf hz hsz hby (c := c) hown hbase (bl_src hp m) hl h1 hK hm2 ty
  obtain ⟨g, cap2, h, _⟩ := q2.form (by omega)
  cases h
  refine ⟨g, cap', w', q1, q2, q3, ?_⟩
  rcases q4 with q4 | q4
  · exact .inl q4.symm
  · exact .inr (by cases q4; exact Nat.le_refl _)
/-- what is kept: the rows, and what they were -/
def KR (v2 v3 : Value) (w : World) (lo bk n m : Nat) (ra : Option Addr) (rk : Nat) (wa : Option Addr) (wk : Nat) (rvs wvs : List Value) (ls ms : List (List Int)) : Prop :=
  Bl w bk #[.slice ra n rk, .slice wa m wk, v2, v3] 28 ∧ RW w lo ra n rk rvs ls ∧ w.ownsRow lo 22 1 (.slice wa m wk) m wvs ∧ TL w lo [] wvs ms ∧ (∀ k, (Value.slice ra n rk).ownBlock = some k → (Value.slice wa m wk).ownBlock ≠ some k) ∧ bk < lo
section
variable {v2 v3 : Value} {w w' w6 : World} {lo bk n m : Nat} {ra : Option Addr} {rk : Nat} {wa : Option Addr} {wk : Nat} {rvs wvs : List Value} {ls ms : List (List Int)} {v : Value} {t : List Int} {g cap' : Nat}
theorem KR.quiet (h : KR v2 v3 w lo bk n m ra rk wa wk rvs wvs ls ms) (o : Out 0 0 w w') : KR v2 v3 w' lo bk n m ra rk wa wk rvs wvs ls ms := ⟨h.1.kept o (.inr (Nat.zero_le _)), h.2.1.quiet o, own_fx (S := fun _ => False) h.2.2.1 (Fx.of_out o) (fun _ _ q => q), h.2.2.2.1.quiet o, h.2.2.2.2⟩
theorem KR.pushR {N : Nat} (h : KR v2 v3 w lo bk n m ra rk wa wk rvs wvs ls ms) (hv : TxL w lo [] v t) (hN : ∀ (j : Nat) a k, rvs[j]? = some a → a.ownBlock = some k → k < N) (hn : ∀ k, v.ownBlock = some k → N ≤ k) (q1 : w6.ownsRow lo 22 1 (.slice (some ⟨g, 0, none⟩) (n + 1) cap') (n + 1) (rvs ++ [v])) (q2 : Fx (fun k => (Value.slice ra n rk).ownBlock = some k) w w6) (q3 : (Value.slice ra n rk).ownBlock = some g ∨ w.heap.size ≤ g) :
    KR v2 v3 (w6.setCell ⟨bk, 0, none⟩ (.slice (some ⟨g, 0, none⟩) (n + 1) cap')) lo bk (n + 1) m (some ⟨g, 0, none⟩) cap' wa wk (rvs ++ [v]) wvs (ls ++ [t]) ms := by
  obtain ⟨h1, ⟨h2, h3, h4⟩, h5, h6, h7, h8⟩ := h
  have hs : Fx (fun k => k = bk) w6 (w6.setCell ⟨bk, 0, none⟩ (.slice (some ⟨g, 0, none⟩) (n + 1) cap')) := (Fx.refl (fun k => k = bk) _).set (p := ⟨bk, 0, none⟩) (.inl rfl) _
  have hlo : ∀ k, (Value.slice ra n rk).ownBlock = some k → lo ≤ k := fun k hk => (own_ge h2 hk).1
  have g5 := own_fx h5 q2 (fun k hk e => h7 k e hk)
  have gT := (h3.up hv).fx q2 (fun j' v' t' k z1 z2 z3 => ((h3.up hv).2 j' v' t' z1 z2).other h2 (by decide) z3)
  have gW := h6.fx q2 (fun j' v' t' k z1 z2 z3 => (h6.2 j' v' t' z1 z2).other h2 (by decide) z3)
  refine ⟨(h1.fx q2 (fun e => by have := hlo bk e; omega)).set 0 _, ⟨own_fx q1 hs (fun k hk e => by have := (own_ge q1 hk).1; omega), gT.fx hs (fun j' v' t' k z1 z2 z3 e => by have := ((gT.2 j' v' t' z1 z2).ob z3).1; omega), h4.up hN hn⟩, own_fx g5 hs (fun k hk e => by have := (own_ge g5 hk).1; omega), gW.fx hs (fun j' v' t' k z1 z2 z3 e => by have := ((gW.2 j' v' t' z1 z2).ob z3).1; omega), ?_, h8⟩
  intro k hk hk'
  cases hk
  rcases q3 with q | q
  · exact h7 _ q hk'
  · exact absurd (own_ge h5 hk').2 (Nat.not_lt.2 q)
theorem KR.pushW (h : KR v2 v3 w lo bk n m ra rk wa wk rvs wvs ls ms) (hv : TxL w lo [] v t) (q1 : w6.ownsRow lo 22 1 (.slice (some ⟨g, 0, none⟩) (m + 1) cap') (m + 1) (wvs ++ [v])) (q2 : Fx (fun k => (Value.slice wa m wk).ownBlock = some k) w w6) (q3 : (Value.slice wa m wk).ownBlock = some g ∨ w.heap.size ≤ g) :
    KR v2 v3 (w6.setCell ⟨bk, 1, none⟩ (.slice (some ⟨g, 0, none⟩) (m + 1) cap')) lo bk n (m + 1) ra rk (some ⟨g, 0, none⟩) cap' rvs (wvs ++ [v]) ls (ms ++ [t]) := by
  obtain ⟨h1, ⟨h2, h3, h4⟩, h5, h6, h7, h8⟩ := h
  have hs : Fx (fun k => k = bk) w6 (w6.setCell ⟨bk, 1, none⟩ (.slice (some ⟨g, 0, none⟩) (m + 1) cap')) := (Fx.refl (fun k => k = bk) _).set (p := ⟨bk, 1, none⟩) (.inl rfl) _
  have hlo : ∀ k, (Value.slice wa m wk).ownBlock = some k → lo ≤ k := fun k hk => (own_ge h5 hk).1
  have g2 := own_fx h2 q2 (fun k hk e => h7 k hk e)
  have gT := h3.fx q2 (fun j' v' t' k z1 z2 z3 => (h3.2 j' v' t' z1 z2).other h5 (by decide) z3)
  have gW := (h6.up hv).fx q2 (fun j' v' t' k z1 z2 z3 => ((h6.up hv).2 j' v' t' z1 z2).other h5 (by decide) z3)
  refine ⟨(h1.fx q2 (fun e => by have := hlo bk e; omega)).set 1 _, ⟨own_fx g2 hs (fun k hk e => by have := (own_ge g2 hk).1; omega), gT.fx hs (fun j' v' t' k z1 z2 z3 e => by have := ((gT.2 j' v' t' z1 z2).ob z3).1; omega), h4⟩, own_fx q1 hs (fun k hk e => by have := (own_ge q1 hk).1; omega), gW.fx hs (fun j' v' t' k z1 z2 z3 e => by have := ((gW.2 j' v' t' z1 z2).ob z3).1; omega), ?_, h8⟩
  intro k hk hk'
  cases hk'
  rcases q3 with q | q
  · exact h7 _ hk q
  · exact absurd (own_ge h2 hk).2 (Nat.not_lt.2 q)
end
set_option maxRecDepth 100000 in
set_option maxHeartbeats 4000000 in
theorem bytes_any {v2 v3 : Value} {w : World} {lo bk n N : Nat} {ra : Option Addr} {rk : Nat} {wa : Option Addr} {wk : Nat} {rvs wvs : List Value} {ls : List (List Int)} {t : List Int} (a1 a2 : Option Addr) (K c1 c2 : Nat) (hlo : lo ≤ w.heap.size) (hn : n ≤ 100000) (h : KR v2 v3 w lo bk n n ra rk wa wk rvs wvs ls ls) (hv : TxL w lo [] (.slice a1 K c1) t) (hu : TxL w lo [] (.slice a2 K c2) t) (hN : ∀ (j : Nat) a k, rvs[j]? = some a → a.ownBlock = some k → k < N) (hN2 : ∀ k, (Value.slice a1 K c1).ownBlock = some k → N ≤ k) :
    Calls Tryd.prog 22 #[.pointer (some ⟨bk, 0, none⟩), .slice a1 K c1, .slice a2 K c2] w fun e w' => e = .returned (.tuple #[]) ∧ ∃ ra' rk' wa' wk', KR v2 v3 w' lo bk (n + 1) (n + 1) ra' rk' wa' wk' (rvs ++ [.slice a1 K c1]) (wvs ++ [.slice a2 K c2]) (ls ++ [t]) (ls ++ [t]) ∧ Fx (fun k => k = bk ∨ (Value.slice ra n rk).ownBlock = some k ∨ (Value.slice wa n wk).ownBlock = some k) w w' ∧ (∀ k, (Value.slice ra' (n + 1) rk').ownBlock = some k → (Value.slice ra n rk).ownBlock = some k ∨ w.heap.size ≤ k) ∧ ∀ k, (Value.slice wa' (n + 1) wk').ownBlock = some k → (Value.slice wa n wk).ownBlock = some k ∨ w.heap.size ≤ k := by
  have oA : Out 0 0 w (w.alloc (.cells #[.slice a1 K c1] 22)) := (Out.refl 0 0 w).alloc _
  have hA := h.quiet oA
  obtain ⟨g3, p3, w3, hr3, q1, q2, q3⟩ := mk_ap (m := 1) (c := 1) (zs := [.slice a1 K c1]) Tryd.underlying25 info_bs rfl (by decide) (by decide) hA.2.1.1 (Nat.le_trans hlo oA.size) (Bl.new _ _ _) rfl (by intro u hu; simp at hu; subst hu; rfl) (by omega) (by decide) (by decide) 25
  have hB := hA.pushR (hv.fx (Q := fun _ => False) (Fx.of_out oA) (fun _ _ q => q)) hN hN2 q1 q2 q3
  have xB : Fx (fun k => k = bk ∨ (Value.slice ra n rk).ownBlock = some k ∨ (Value.slice wa n wk).ownBlock = some k) w (w3.setCell ⟨bk, 0, none⟩ (.slice (some ⟨g3, 0, none⟩) (n + 1) p3)) := (((Fx.of_out oA).trans (q2.wide fun k _ hk => .inr (.inl hk)))).set (p := ⟨bk, 0, none⟩) (.inl (.inl rfl)) _
  obtain ⟨W3, hW3⟩ : ∃ W3, w3.setCell ⟨bk, 0, none⟩ (.slice (some ⟨g3, 0, none⟩) (n + 1) p3) = W3 := ⟨_, rfl⟩
  have oC : Out 0 0 W3 (W3.alloc (.cells #[.slice a2 K c2] 22)) := (Out.refl 0 0 W3).alloc _
  have k3 := (hA.1.fx q2 (fun e => by have := (own_ge hA.2.1.1 e).1; have := h.2.2.2.2.2; omega))
  rw [hW3] at hB xB
  have hu3 : TxL W3 lo [] (.slice a2 K c2) t := by
    rw [← hW3]
    have := hu.fx (Q := fun _ => False) (Fx.of_out oA) (fun _ _ q => q)
    have h5 := this.fx q2 (fun k hk => this.other hA.2.1.1 (by decide) hk)
    exact h5.fx ((Fx.refl (fun k => k = bk) _).set (p := ⟨bk, 0, none⟩) (.inl rfl) _) (fun k hk e => by have := (h5.ob hk).1; have := h.2.2.2.2.2; omega)
  have hC := hB.quiet oC
  obtain ⟨g4, p4, w4, hr4, z1, z2, z3⟩ := mk_ap (m := 1) (c := 1) (zs := [.slice a2 K c2]) Tryd.underlying25 info_bs rfl (by decide) (by decide) hC.2.2.1 (Nat.le_trans hlo (Nat.le_trans xB.size oC.size)) (Bl.new _ _ _) rfl (by intro u hu; simp at hu; subst hu; rfl) (by omega) (by decide) (by decide) 25
  have hD := hC.pushW (hu3.fx (Q := fun _ => False) (Fx.of_out oC) (fun _ _ q => q)) z1 z2 z3
  have xD : Fx (fun k => k = bk ∨ (Value.slice ra n rk).ownBlock = some k ∨ (Value.slice wa n wk).ownBlock = some k) w (w4.setCell ⟨bk, 1, none⟩ (.slice (some ⟨g4, 0, none⟩) (n + 1) p4)) := ((xB.trans (Fx.of_out oC)).trans (z2.wide fun k _ hk => .inr (.inr hk))).set (p := ⟨bk, 1, none⟩) (.inl (.inl rfl)) _
  have k4 := (hC.1.fx z2 (fun e => by have := (own_ge hC.2.2.1 e).1; have := h.2.2.2.2.2; omega))
  have d0 := h.1.cell (i := 0) rfl
  have d1 := k3.cell (i := 0) rfl
  have d2 := k3.frozen 0
  have d3 := hB.1.cell (i := 1) rfl
  have d4 := k4.cell (i := 1) rfl
  have d5 := k4.frozen 1
  have HR3 := hid_mk hr3
  have HR4 := hid_mk hr4
  have fR : ∀ k, (Value.slice (some ⟨g3, 0, none⟩) (n + 1) p3).ownBlock = some k → (Value.slice ra n rk).ownBlock = some k ∨ w.heap.size ≤ k := by
    intro k hk
    cases hk
    exact q3.imp id fun e => Nat.le_trans oA.size e
  have fW : ∀ k, (Value.slice (some ⟨g4, 0, none⟩) (n + 1) p4).ownBlock = some k → (Value.slice wa n wk).ownBlock = some k ∨ w.heap.size ≤ k := by
    intro k hk
    cases hk
    exact z3.imp id fun e => Nat.le_trans (Nat.le_trans xB.size oC.size) e
  have HD := hid_mk (And.intro hD (And.intro xD (And.intro fR fW)))
  clear fR fW hA hB hC hD xB xD q1 q2 q3 z1 z2 z3 k3 k4 hr3 hr4 hu3 hv hu hN hN2 h hlo hn oA oC
  go_enter Tryd.func22, Tryd.ntmps22
  go_upto_region 1 with (at_builtin; refine app_st rfl _ _ _ _ rfl rfl rfl HR3.out ?_)
  (try rw [hW3])
  clear hW3
  go_wp2_with (at_builtin; refine app_st rfl _ _ _ _ rfl rfl rfl HR4.out ?_)
  exact bodyPost_end (results_none Tryd.results22 _ _ _) rfl ⟨rfl, _, _, _, _, HD.out⟩
end Go.Proofs.YtapjfokkcgdhhaaDoor
namespace Go.Proofs.YtapjfokkcgdhhaaDoor
open Go.RowKit
set_option linter.unusedVariables false
set_option linter.unusedSimpArgs false

theorem own_blk2 {w : World} {E : TypeId} {base sz K cap g : Nat} {xs : List Value} (h : w.ownsRow base E sz (.slice (some ⟨g, 0, none⟩) K cap) K xs) : ∃ cur, Bl w g cur E := by
  rcases h.2 with ⟨h0, _⟩ | ⟨q, cap2, cur, h0, hg1, hg2, _⟩
  · cases h0
  · cases h0
    exact ⟨cur, hg2⟩
theorem own_no {w : World} {E E' : TypeId} {base sz n k : Nat} {v : Value} {xs : List Value} {cs : Array Value} (h : w.ownsRow base E sz v n xs) (hb : Bl w k cs E') (hE : E' ≠ E) : v.ownBlock ≠ some k := by
  intro e
  rcases h.2 with ⟨rfl, _⟩ | ⟨q, cap2, cur, rfl, hg1, hg2, _⟩
  · cases e
  · cases e
    have hb' : w.heap[q]? = some (.cells cs E' (0, 0)) := hb
    rw [hg2] at hb'
    cases hb'
    exact hE rfl
theorem txl_no {w : World} {lo k : Nat} {mk t : List Int} {v : Value} {E' : TypeId} {cs : Array Value} (h : TxL w lo mk v t) (hb : Bl w k cs E') (hE : E' ≠ 5) : v.ownBlock ≠ some k := by
  obtain ⟨h1, a, c, rfl, h2⟩ := h
  intro e
  exact own_no h2 hb hE (by rw [← e]; exact ob_len)
/-- what is kept stays where blocks of programs are written -/
theorem KR.fx {v2 v3 : Value} {w w' : World} {lo bk n m : Nat} {ra : Option Addr} {rk : Nat} {wa : Option Addr} {wk : Nat} {rvs wvs : List Value} {ls ms : List (List Int)} {Q : Nat → Prop} (h : KR v2 v3 w lo bk n m ra rk wa wk rvs wvs ls ms) (x : Fx Q w w') (hQ : ∀ k, Q k → ∃ cs E, Bl w k cs E ∧ E ≠ 5 ∧ E ≠ 22 ∧ E ≠ 28) : KR v2 v3 w' lo bk n m ra rk wa wk rvs wvs ls ms := by
  obtain ⟨h1, ⟨h2, h3, h4⟩, h5, h6, h7, h8⟩ := h
  refine ⟨h1.fx x (fun q => ?_), ⟨own_fx h2 x (fun k hk q => ?_), h3.fx x (fun j v t k z1 z2 z3 q => ?_), h4⟩, own_fx h5 x (fun k hk q => ?_), h6.fx x (fun j v t k z1 z2 z3 q => ?_), h7, h8⟩
  · obtain ⟨cs, E, b1, b2, b3, b4⟩ := hQ bk q
    have b1' : w.heap[bk]? = some (.cells cs E (0, 0)) := b1
    have h1' : w.heap[bk]? = _ := h1
    rw [h1'] at b1'
    cases b1'
    exact b4 rfl
  · obtain ⟨cs, E, b1, b2, b3, b4⟩ := hQ k q
    exact own_no h2 b1 b3 hk
  · obtain ⟨cs, E, b1, b2, b3, b4⟩ := hQ k q
    exact txl_no (h3.2 j v t z1 z2) b1 b2 z3
  · obtain ⟨cs, E, b1, b2, b3, b4⟩ := hQ k q
    exact own_no h5 b1 b3 hk
  · obtain ⟨cs, E, b1, b2, b3, b4⟩ := hQ k q
    exact txl_no (h6.2 j v t z1 z2) b1 b2 z3
/-- the first instruction of the first function, and its locals, are others -/
theorem LnAt.turn {w : World} {lo gt ct gf cf gc n c : Nat} {vs : List Value} {mv : Value} {cs : List Value} {ts : List (List Int)} {fs : List (Int × Int × Int × List (Int × Int))} {P L C : Int} {y : Int × Int} {cd : List (Int × Int)} (h : LnAt w lo gt ct gf cf vs mv cs ts ((P, L, C, y :: cd) :: fs)) (hc : cs[0]? = some (.slice (some ⟨gc, 0, none⟩) n c)) :
    LnAt (((w.setCell ⟨gc, 0, none⟩ (.int .i64 1)).setCell ⟨gc, 1, none⟩ (.int .i64 77)).setCell ⟨gf, 1, none⟩ (.int .i64 3)) lo gt ct gf cf vs mv cs ts ((P, 3, C, (1, 77) :: cd) :: fs) := by
  obtain ⟨h1, h2, h3, h4, h5⟩ := h
  obtain ⟨a, c', e1, q1⟩ := h5.2.1 0 _ _ hc rfl
  cases e1
  obtain ⟨cur, bC⟩ := own_blk2 q1
  obtain ⟨cur2, bF⟩ := own_blk2 h4
  have x : Fx (fun k => k = gc ∨ k = gf) w (((w.setCell ⟨gc, 0, none⟩ (.int .i64 1)).setCell ⟨gc, 1, none⟩ (.int .i64 77)).setCell ⟨gf, 1, none⟩ (.int .i64 3)) := (((Fx.refl (fun k => k = gc ∨ k = gf) w).set (p := ⟨gc, 0, none⟩) (.inl (.inl rfl)) _).set (p := ⟨gc, 1, none⟩) (.inl (.inl rfl)) _).set (p := ⟨gf, 1, none⟩) (.inl (.inr rfl)) _
  have hne : gc ≠ gf := fun e => by
    subst e
    have b1 : w.heap[gc]? = some (.cells cur 61 (0, 0)) := bC
    have b2 : w.heap[gc]? = _ := bF
    rw [b2] at b1
    cases b1
  refine ⟨own_fx h1 x (fun k hk q => ?_), h2.fx x (fun j v t k z1 z2 z3 q => ?_), h3.fx x (fun k hk q => ?_), ?_, h5.1, fun j v f z1 z2 => ?_, h5.2.2⟩
  · rcases q with rfl | rfl
    · exact own_no h1 bC (by decide) hk
    · exact own_no h1 bF (by decide) hk
  · rcases q with rfl | rfl
    · exact txl_no (h2.2 j v t z1 z2) bC (by decide) z3
    · exact txl_no (h2.2 j v t z1 z2) bF (by decide) z3
  · obtain ⟨g, rfl, z1, z2⟩ := h3
    cases hk
    rcases q with q | q
    · subst q; have : w.heap[g]? = some (.cells cur 61 (0, 0)) := bC; rw [z2] at this; cases this
    · subst q; have : w.heap[g]? = some (.cells cur2 40 (0, 0)) := bF; rw [z2] at this; cases this
  · have x1 : Fx (fun k => k = gc) w ((w.setCell ⟨gc, 0, none⟩ (.int .i64 1)).setCell ⟨gc, 1, none⟩ (.int .i64 77)) := ((Fx.refl (fun k => k = gc) w).set (p := ⟨gc, 0, none⟩) (.inl rfl) _).set (p := ⟨gc, 1, none⟩) (.inl rfl) _
    have o1 := own_fx h4 x1 (fun k hk q => by subst q; exact own_no h4 bC (by decide) hk)
    have o2 := own_put o1 1 (.int .i64 3)
    cases cs with
    | nil => simp at hc
    | cons c0 cs => exact o2
  · have o1 := own_put (own_put q1 0 (.int .i64 1)) 1 (.int .i64 77)
    have x2 : Fx (fun k => k = gf) ((w.setCell ⟨gc, 0, none⟩ (.int .i64 1)).setCell ⟨gc, 1, none⟩ (.int .i64 77)) (((w.setCell ⟨gc, 0, none⟩ (.int .i64 1)).setCell ⟨gc, 1, none⟩ (.int .i64 77)).setCell ⟨gf, 1, none⟩ (.int .i64 3)) := (Fx.refl (fun k => k = gf) _).set (p := ⟨gf, 1, none⟩) (.inl rfl) _
    match j, z1, z2 with
    | 0, z1, z2 =>
      cases z2
      rw [hc] at z1
      cases z1
      exact ⟨_, _, rfl, own_fx o1 x2 (fun k hk q => by cases hk; exact hne q)⟩
    | j + 1, z1, z2 =>
      have hd := h5.2.1 (j + 1) v f z1 z2
      refine hd.fx x (fun k hk q => ?_)
      rcases q with rfl | rfl
      · exact h5.2.2 0 (j + 1) _ v k (by omega) hc z1 rfl hk
      · exact hd.other h4 (by decide) hk rfl
end Go.Proofs.YtapjfokkcgdhhaaDoor
