/- GraphDeep: the law -/
import Derived.Test.YtocncffplcfpbaaGreatDoorGtt
namespace Go.Proofs.YtocncffplcfpbaaGreatDoor
open Go.RowKit Go.MapKept
set_option linter.unusedVariables false
set_option linter.unusedSimpArgs false

theorem wp_named {P : Program} {c : Code} {Q : Exit → Go.Act → World → Prop} {a : Go.Act} {w : World} (h : ∀ W1, W1 = w → c.wp P Q a W1) : c.wp P Q a w := h w rfl
theorem vb_two {X : World} {b : Nat} {p1 p2 p3 p4 : Int} (hb : Bl X b #[.int .i64 p1, .int .i64 p2, .int .i64 p3, .int .i64 p4] 28) : VB X b [(p1, p2), (p3, p4)] :=
  ⟨_, hb, fun j u hj => by rw [← hj]; simp [vcs]⟩
theorem vb_one {X : World} {b : Nat} {p1 p2 : Int} (hb : Bl X b #[.int .i64 p1, .int .i64 p2] 28) : VB X b [(p1, p2)] :=
  ⟨_, hb, fun j u hj => by rw [← hj]; simp [vcs]⟩
set_option maxRecDepth 100000 in
set_option maxHeartbeats 8000000 in
theorem deep_any {W : World} (hT : Tab W) (m kd : Int) :
    Calls Tryz.prog 3 #[.int .i64 m, .int .i64 kd] W fun e w' => e = .returned (.bool true) ∧ Out 0 0 W w' := by
  have HT := hid_mk hT
  clear hT
  by_cases hm : 1 ≤ m ∧ m ≤ 30000
  · obtain ⟨n, rfl⟩ : ∃ n : Nat, m = n := ⟨m.toNat, by omega⟩
    have g1 : decide ((n : Int) < 1) = false := by simp; omega
    have g2 : decide ((30000 : Int) < (n : Int)) = false := by simp; omega
    have HM : Hid (1 ≤ n ∧ n ≤ 30000) := hid_mk (by omega)
    obtain ⟨t, ht⟩ : ∃ t, bits .and .i64 kd 1 = t := ⟨_, rfl⟩
    clear hm
    go_enter Tryz.func3, Tryz.ntmps3
    go_wp2_with fail
    refine (alive_any HT.out).mono ?_
    rintro e w1 ⟨rfl, o1⟩
    have HO1 := hid_mk o1
    clear o1
    go_wp2_with fail
    obtain ⟨gb, hgb⟩ : ∃ gb, w1.heap.size = gb := ⟨_, rfl⟩
    obtain ⟨W0, hW0⟩ : ∃ W0, (w1.alloc (.cells #[.slice none 0 0, .slice none 0 0] 26)).alloc (.cells #[.int .i64 3, .int .i64 3] 28) = W0 := ⟨_, rfl⟩
    rw [hW0, hgb]
    have HD0 : Hid (DG W W0 gb (gb + 1) (fun _ => 1) (fun _ => 2) (lP n (t == 1)) [] 0 0) := by
      have o2 : Out 0 0 w1 W0 := hW0 ▸ ((Out.refl 0 0 w1).alloc _).alloc _
      have b1 : Bl W0 gb #[.slice none 0 0, .slice none 0 0] 26 := by rw [← hW0, ← hgb]; exact (Bl.new _ _ _).alloc _
      have b2 : Bl W0 (gb + 1) #[.int .i64 3, .int .i64 3] 28 := by
        have := Bl.new (w1.alloc (.cells #[.slice none 0 0, .slice none 0 0] 26)) #[.int .i64 3, .int .i64 3] 28
        rwa [size_alloc, hW0, hgb] at this
      exact hid_mk ⟨HO1.out.trans o2, b2, none, 0, fun _ => 0, none, 0, b1, told_zero, ⟨rfl, .inl ⟨rfl, rfl⟩⟩, by simp [Value.ownBlock], by simp [Value.ownBlock]⟩
    have HGB : Hid (W.heap.size ≤ gb) := hid_mk (by rw [← hgb]; exact HO1.out.size)
    clear hW0 hgb HO1
    go_loopw [7] (fun c wr => ∃ k : Nat, c = .int .i64 ((k + 1 : Nat) : Int) ∧ k ≤ n ∧ DG W wr gb (gb + 1) (fun _ => 1) (fun _ => 2) (lP n (t == 1)) [] k 0) (fun c _ => n + 1 - (intOf c).toNat)
    case atStart => exact ⟨0, rfl, by have := HM.out; omega, HD0.out⟩
    case round =>
      obtain ⟨k, rfl, hkn, hD⟩ := hrel
      by_cases hgo : k < n
      · have q1 : decide (((k + 1 : Nat) : Int) ≤ (n : Int)) = true := by simp; omega
        have c0 := hD.2.1.cell (i := 0) rfl
        have c1 := hD.2.1.cell (i := 1) rfl
        have hls := hD.2.1.lt
        have hls2 : gb + 1 < wr.heap.size + 1 := by omega
        have hls3 : gb + 1 < wr.heap.size + 1 + 1 := by omega
        have hw1 : wrap64 (((k + 1 : Nat) : Int) + 1) = ((k + 2 : Nat) : Int) := by have := HM.out.2; unfold wrap64; omega
        obtain ⟨ix, hix⟩ : ∃ ix : Int, ((k + 1 : Nat) : Int) = ix := ⟨_, rfl⟩
        obtain ⟨iy, hiy⟩ : ∃ iy : Int, ((k + 2 : Nat) : Int) = iy := ⟨_, rfl⟩
        rw [hix] at q1 hw1
        rw [hiy] at hw1
        rw [hix]
        have HQ := hid_mk (And.intro hgo (And.intro hix hiy))
        have HDD := hid_mk hD
        clear hD hgo hkn hix hiy
        by_cases hlast : k + 1 = n
        · have hne : (ix == (n : Int)) = true := by have := HQ.out.2.1; simp; omega
          by_cases htt : t = 1
          · have ht1 : (t == 1) = true := by simpa using htt
            go_upto_region 14 with fail
            refine wp_named (fun X hX => ?_)
            have oX : Out 0 0 wr X := by rw [hX]; exact (((Out.refl 0 0 wr).alloc _).alloc _).alloc _
            have vX : VB X (wr.heap.size + 1 + 1) (lP n (t == 1) k) := by
              have h1 := Bl.new ((wr.alloc (.cells #[.int .i64 3, .int .i64 3] 28)).alloc (.cells #[.int .i64 3, .int .i64 3, .int .i64 3, .int .i64 3] 28)) #[.int .i64 3, .int .i64 3, .int .i64 3, .int .i64 3] 28
              rw [size_alloc, size_alloc] at h1
              have e : lP n (t == 1) k = [(3, 3), (3, 3)] := by unfold lP nx; rw [ht1]; simp [hlast]
              rw [e, hX]
              exact vb_two h1
            obtain ⟨a, ac, rv, a', cap', Z, -, s0, s1, r1, z0, z1, hD2⟩ := node_app HDD.out oX vX (by omega) (by have := HQ.out.1; have := HM.out.2; omega) HGB.out HQ.out.2.1
            have HR := hid_mk r1
            have HE := hid_mk hD2
            clear r1 hD2 vX oX hX c0 c1 hls hls2 hls3 hlast
            go_wp2_with (at_builtin; refine app_st rfl _ _ _ _ rfl rfl rfl HR.out ?_)
            exact ⟨⟨k + 1, by rw [hw1, ← HQ.out.2.2], HQ.out.1, HE.out⟩, by rw [hw1, ← HQ.out.2.1, ← HQ.out.2.2]; have := HQ.out.1; simp only [intOf]; omega⟩
          · have ht1 : (t == 1) = false := by simpa using htt
            go_upto_region 14 with fail
            refine wp_named (fun X hX => ?_)
            have oX : Out 0 0 wr X := by rw [hX]; exact ((Out.refl 0 0 wr).alloc _).alloc _
            have vX : VB X (wr.heap.size + 1) (lP n (t == 1) k) := by
              have h1 := Bl.new (wr.alloc (.cells #[.int .i64 3, .int .i64 3] 28)) #[.int .i64 3, .int .i64 3, .int .i64 3, .int .i64 3] 28
              rw [size_alloc] at h1
              have e : lP n (t == 1) k = [(3, 3), (3, 3)] := by unfold lP nx; rw [ht1]; simp [hlast]
              rw [e, hX]
              exact vb_two h1
            obtain ⟨a, ac, rv, a', cap', Z, -, s0, s1, r1, z0, z1, hD2⟩ := node_app HDD.out oX vX (by omega) (by have := HQ.out.1; have := HM.out.2; omega) HGB.out HQ.out.2.1
            have HR := hid_mk r1
            have HE := hid_mk hD2
            clear r1 hD2 vX oX hX c0 c1 hls hls2 hls3 hlast
            go_wp2_with (at_builtin; refine app_st rfl _ _ _ _ rfl rfl rfl HR.out ?_)
            exact ⟨⟨k + 1, by rw [hw1, ← HQ.out.2.2], HQ.out.1, HE.out⟩, by rw [hw1, ← HQ.out.2.1, ← HQ.out.2.2]; have := HQ.out.1; simp only [intOf]; omega⟩
        · have hne : (ix == (n : Int)) = false := by have := HQ.out.2.1; simp; omega
          by_cases htt : t = 1
          · have ht1 : (t == 1) = true := by simpa using htt
            go_upto_region 14 with fail
            refine wp_named (fun X hX => ?_)
            have oX : Out 0 0 wr X := by rw [hX]; exact (((Out.refl 0 0 wr).alloc _).alloc _).alloc _
            have vX : VB X (wr.heap.size + 1 + 1) (lP n (t == 1) k) := by
              have h1 := Bl.new ((wr.alloc (.cells #[.int .i64 2, .int .i64 iy] 28)).alloc (.cells #[.int .i64 3, .int .i64 3, .int .i64 2, .int .i64 iy] 28)) #[.int .i64 2, .int .i64 iy, .int .i64 3, .int .i64 3] 28
              rw [size_alloc, size_alloc] at h1
              have e : lP n (t == 1) k = [(2, iy), (3, 3)] := by rw [← HQ.out.2.2]; unfold lP nx; rw [ht1]; simp [hlast]
              rw [e, hX]
              exact vb_two h1
            obtain ⟨a, ac, rv, a', cap', Z, -, s0, s1, r1, z0, z1, hD2⟩ := node_app HDD.out oX vX (by omega) (by have := HQ.out.1; have := HM.out.2; omega) HGB.out HQ.out.2.1
            have HR := hid_mk r1
            have HE := hid_mk hD2
            clear r1 hD2 vX oX hX c0 c1 hls hls2 hls3 hlast
            go_wp2_with (at_builtin; refine app_st rfl _ _ _ _ rfl rfl rfl HR.out ?_)
            exact ⟨⟨k + 1, by rw [hw1, ← HQ.out.2.2], HQ.out.1, HE.out⟩, by rw [hw1, ← HQ.out.2.1, ← HQ.out.2.2]; have := HQ.out.1; simp only [intOf]; omega⟩
          · have ht1 : (t == 1) = false := by simpa using htt
            go_upto_region 14 with fail
            refine wp_named (fun X hX => ?_)
            have oX : Out 0 0 wr X := by rw [hX]; exact ((Out.refl 0 0 wr).alloc _).alloc _
            have vX : VB X (wr.heap.size + 1) (lP n (t == 1) k) := by
              have h1 := Bl.new (wr.alloc (.cells #[.int .i64 2, .int .i64 iy] 28)) #[.int .i64 3, .int .i64 3, .int .i64 2, .int .i64 iy] 28
              rw [size_alloc] at h1
              have e : lP n (t == 1) k = [(3, 3), (2, iy)] := by rw [← HQ.out.2.2]; unfold lP nx; rw [ht1]; simp [hlast]
              rw [e, hX]
              exact vb_two h1
            obtain ⟨a, ac, rv, a', cap', Z, -, s0, s1, r1, z0, z1, hD2⟩ := node_app HDD.out oX vX (by omega) (by have := HQ.out.1; have := HM.out.2; omega) HGB.out HQ.out.2.1
            have HR := hid_mk r1
            have HE := hid_mk hD2
            clear r1 hD2 vX oX hX c0 c1 hls hls2 hls3 hlast
            go_wp2_with (at_builtin; refine app_st rfl _ _ _ _ rfl rfl rfl HR.out ?_)
            exact ⟨⟨k + 1, by rw [hw1, ← HQ.out.2.2], HQ.out.1, HE.out⟩, by rw [hw1, ← HQ.out.2.1, ← HQ.out.2.2]; have := HQ.out.1; simp only [intOf]; omega⟩
      · obtain rfl : n = k := by omega
        have q1 : decide (((n + 1 : Nat) : Int) ≤ (n : Int)) = false := by simp; omega
        obtain ⟨f1, f2, a, ac, tb, ra, rc, f3, f4, f5, f6, f7⟩ := hD
        have c0 := f3.cell (i := 0) rfl
        have c1 := f3.cell (i := 1) rfl
        have z0 := f3.frozen 0
        have z1 := f3.frozen 1
        have hlg := f3.lt
        obtain ⟨rb, hrb⟩ : ∃ rb, wr.heap.size = rb := ⟨_, rfl⟩
        obtain ⟨X1, hX1⟩ : ∃ X1, (wr.setCell ⟨gb, 1, none⟩ (.slice (some ⟨rb, 0, none⟩) 1 1)).alloc (.cells #[.int .i64 2, .int .i64 1] 28) = X1 := ⟨_, rfl⟩
        obtain ⟨gn, hgn, HX⟩ : ∃ gn, a = some ⟨gn, 0, none⟩ ∧ Hid (PGr X1 gn n (fun _ => 1) (fun i => some ⟨tb i, 0, none⟩) (fun _ => 2) (fun _ => 2) (lP n (t == 1)) (some ⟨rb, 0, none⟩) 1 [(2, 1)] ∧ Out 0 0 W X1 ∧ Bl X1 gb #[.slice a n ac, .slice (some ⟨rb, 0, none⟩) 1 1] 26 ∧ Bl X1 (gb + 1) #[.int .i64 3, .int .i64 3] 28 ∧ Told X1 a ac n (fun _ => 1) (fun _ => 2) tb (fun _ => 2) (lP n (t == 1)) W.heap.size ∧ VsAt X1 (some ⟨rb, 0, none⟩) [(2, 1)] ∧ rb < X1.heap.size) := by
          have xS : Fx (fun j => j = gb) wr X1 := hX1 ▸ (Fx.set (S := fun j => j = gb) (Fx.refl _ wr) (p := ⟨gb, 1, none⟩) (.inl rfl) _).alloc _
          have bR : Bl X1 rb #[.int .i64 2, .int .i64 1] 28 := by
            have := Bl.new (wr.setCell ⟨gb, 1, none⟩ (.slice (some ⟨rb, 0, none⟩) 1 1)) #[.int .i64 2, .int .i64 1] 28
            rwa [hX1, size_set, hrb] at this
          have t4 := f4.fx xS (fun g hg e => own_ot f4.1 f3 (by decide) (e ▸ hg)) (fun i hi => (f4.2 i hi).ne f3 (by decide))
          have bG : Bl X1 gb #[.slice a n ac, .slice (some ⟨rb, 0, none⟩) 1 1] 26 := hX1 ▸ (f3.set 1 _).alloc _
          have vR := (vb_one bR).vs
          obtain ⟨gn, hgn, hp⟩ := told_pgr t4 HM.out.1 (fun i _ => lP_len n _ i) vR rfl (okD _ HM.out.1 HM.out.2) (by have := HM.out.2; omega) (by simp) (fun q hq => by cases hq; exact bR.lt) (fun i hi => ⟨by simp, by simp⟩)
          exact ⟨gn, hgn, hid_mk ⟨hp, ((Fx.of_out (S := fun _ => False) f1).then xS (fun j h1 h2 => by have := HGB.out; omega)).out (fun _ _ q => q), bG, f2.fx xS (by omega), t4, vR, bR.lt⟩⟩
        subst hgn
        have HC := hid_mk (collect_plain (cn := ac) (rc := 1) (HT.out.quiet HX.out.2.1) HX.out.1 HM.out.1 (by omega) (fun i hi => ⟨by simp, by simp, by simp⟩) (fun y hy => by
          have := lvP (n := n) (t == 1) (y - 1).toNat (by omega)
          rwa [show (((y - 1).toNat + 1 : Nat) : Int) = y by omega] at this))
        have HRB := hid_mk (And.intro hrb hX1)
        clear f1 f2 f3 f4 f5 f6 f7 hgo hkn hrb hX1
        go_wp2_with fail
        rw [HRB.out.1, HRB.out.2]
        clear HRB c0 c1 z0 z1 hlg
        refine HC.out.mono ?_
        rintro e w2 ⟨a2, ac2, cb2, cc2, tb2, tc2, rfl, o2, t2, v2⟩
        have HX2 := hid_mk (And.intro o2 (And.intro t2 v2))
        have c0 := (HX.out.2.2.1.kept o2 (.inr (Nat.zero_le _))).cell (i := 0) rfl
        have c1 := (HX.out.2.2.1.kept o2 (.inr (Nat.zero_le _))).cell (i := 1) rfl
        have hlg := (HX.out.2.2.1.kept o2 (.inr (Nat.zero_le _))).lt
        have hlg2 : gb < w2.heap.size + 1 := by omega
        have hlg3 : gb < w2.heap.size + 1 + 1 := by omega
        clear o2 t2 v2 HC
        go_wp2_with fail
        obtain ⟨W3, hW3⟩ : ∃ W3, (w2.alloc (.cells #[.slice a2 n ac2, .slice (some ⟨cb2, 0, none⟩) 1 cc2] 26)).alloc (.cells #[.int .i64 (n : Int), .int .i64 0, .int .i64 0, .int .i64 0, .int .i64 0] 34) = W3 := ⟨_, rfl⟩
        obtain ⟨xb, hxb⟩ : ∃ xb, w2.heap.size = xb := ⟨_, rfl⟩
        have o3 : Out 0 0 w2 W3 := hW3 ▸ ((Out.refl 0 0 w2).alloc _).alloc _
        have bx : Bl W3 xb #[.slice a2 n ac2, .slice (some ⟨cb2, 0, none⟩) 1 cc2] 26 := by rw [← hW3, ← hxb]; exact (Bl.new _ _ _).alloc _
        have br : Bl W3 (xb + 1) #[.int .i64 (n : Int), .int .i64 0, .int .i64 0, .int .i64 0, .int .i64 0] 34 := by
          have := Bl.new (w2.alloc (.cells #[.slice a2 n ac2, .slice (some ⟨cb2, 0, none⟩) 1 cc2] 26)) #[.int .i64 (n : Int), .int .i64 0, .int .i64 0, .int .i64 0, .int .i64 0] 34
          rwa [size_alloc, hW3, hxb] at this
        have o13 := HX2.out.1.trans o3
        have HY : Hid (Out 0 0 X1 W3 ∧ Told W3 a2 ac2 n (fun _ => 1) (fun _ => 2) tb2 tc2 (lP n (t == 1)) X1.heap.size ∧ VB W3 cb2 [(2, 1)] ∧ Bl W3 xb #[.slice a2 n ac2, .slice (some ⟨cb2, 0, none⟩) 1 cc2] 26 ∧ Bl W3 (xb + 1) #[.int .i64 (n : Int), .int .i64 0, .int .i64 0, .int .i64 0, .int .i64 0] 34) := hid_mk ⟨o13, HX2.out.2.1.fx (S := fun _ => False) (Fx.of_out o3) (fun _ _ => id) (fun _ _ => id), HX2.out.2.2.quiet o3, bx, br⟩
        rw [hW3, hxb]
        replace c0 := o3.cell c0 (.inr (Nat.zero_le _))
        replace c1 := o3.cell c1 (.inr (Nat.zero_le _))
        have HC := hid_mk (check_plain (cn := ac) (rc := 1) (HT.out.quiet (HX.out.2.1.trans o13)) (HX.out.1.quiet o13))
        clear hW3 hxb o3 bx br o13 HX2 hlg hlg2 hlg3
        refine HC.out.mono ?_
        rintro e w4 ⟨rfl, o4⟩
        have o14 := HY.out.1.trans o4
        have HL := hid_mk (live_plain (cn := ac) (rc := 1) (HT.out.quiet (HX.out.2.1.trans o14)) (HX.out.1.quiet o14) ⟨_, lvP (n := n) (t == 1) 0 (by have := HM.out.1; omega)⟩)
        have HO4 := hid_mk o4
        replace c0 := o4.cell c0 (.inr (Nat.zero_le _))
        replace c1 := o4.cell c1 (.inr (Nat.zero_le _))
        clear HC o4 o14
        go_wp2_with fail
        refine HL.out.mono ?_
        rintro e w5 ⟨ks, ka, kc, rfl, k1, k2, k3, o5⟩
        have hks : ks.length = n := rng_len (a := 0) k1 (fun y => by
          rw [k2 y]
          constructor
          · intro h
            have := okay_dom HX.out.1.2.2.2.1 h
            omega
          · intro h
            have := lvP (n := n) (t == 1) (y - 1).toNat (by omega)
            rwa [show (((y - 1).toNat + 1 : Nat) : Int) = y by omega] at this)
        rw [hks]
        have o35 := HO4.out.trans o5
        have hb := HY.out.2.2.2.1.kept o35 (.inr (Nat.zero_le _))
        have hr := HY.out.2.2.2.2.kept o35 (.inr (Nat.zero_le _))
        have x0 := hb.cell (i := 0) rfl
        have x1 := hb.cell (i := 1) rfl
        have r0 := hr.cell (i := 0) rfl
        replace c0 := o5.cell c0 (.inr (Nat.zero_le _))
        replace c1 := o5.cell c1 (.inr (Nat.zero_le _))
        have hq35 := Fx.of_out (S := fun _ => False) o35
        have o15 := HY.out.1.trans o35
        have HEq := hid_mk (equal_told (cr := cc2) (cr' := 1) (HY.out.2.1.fx hq35 (fun _ _ => id) (fun _ _ => id)) (HX.out.2.2.2.2.1.fx (S := fun _ => False) (Fx.of_out o15) (fun _ _ => id) (fun _ _ => id)) HM.out.1 (fun i _ => lP_len n _ i) (HY.out.2.2.1.quiet o35).vs (HX.out.2.2.2.2.2.1.quiet o15) rfl (fun q hq => by cases hq; exact (HY.out.2.2.1.quiet o35).lt) (fun q hq => by cases hq; exact Nat.lt_of_lt_of_le HX.out.2.2.2.2.2.2 o15.size) (by have := HM.out.2; omega) (by simp) (fun i _ => by simp))
        have HO5 := hid_mk o15
        clear HL k1 k2 k3 hks o5 o35 hb hr hq35 o15
        go_wp2_with fail
        refine HEq.out.mono ?_
        rintro e w6 ⟨rfl, o6⟩
        have HO6 := hid_mk (HO5.out.trans o6)
        have bG := HX.out.2.2.1.kept HO6.out (.inr (Nat.zero_le _))
        have bV := HX.out.2.2.2.1.kept HO6.out (.inr (Nat.zero_le _))
        replace c0 := bG.cell (i := 0) rfl
        replace c1 := bG.cell (i := 1) rfl
        have z0 := bG.frozen 0
        have z1 := bG.frozen 1
        have HB6 := hid_mk (And.intro bG bV)
        clear o6 HEq x0 x1 r0 bG bV HO5 HO4
        go_wp2_with fail
        obtain ⟨W6, hW6⟩ : ∃ W6, (w6.setCell ⟨gb, 0, none⟩ (.slice none 0 0)).setCell ⟨gb, 1, none⟩ (.slice none 0 0) = W6 := ⟨_, rfl⟩
        rw [hW6]
        have HE0 : Hid (DG W W6 gb (gb + 1) (KE n) (nfE n) (lE n) (rE n ++ [(2, (n : Int))]) 0 0) := by
          have x6 : Fx (fun j => j = gb) w6 W6 := hW6 ▸ ((Fx.refl (fun j => j = gb) w6).set (p := ⟨gb, 0, none⟩) (.inl rfl) _).set (p := ⟨gb, 1, none⟩) (.inl rfl) _
          exact hid_mk ⟨((Fx.of_out (S := fun _ => False) (HX.out.2.1.trans HO6.out)).then x6 (fun j h1 h2 => by have := HGB.out; omega)).out (fun _ _ q => q), HB6.out.2.fx x6 (by omega), none, 0, fun _ => 0, none, 0, hW6 ▸ (HB6.out.1.set 0 _).set 1 _, told_zero, ⟨rfl, .inl ⟨rfl, rfl⟩⟩, by simp [Value.ownBlock], by simp [Value.ownBlock]⟩
        clear hW6 HB6 HO6 HY HX c0 c1 z0 z1
        go_loopw [13] (fun c wr => ∃ k : Nat, c = .int .i64 ((k + 1 : Nat) : Int) ∧ k ≤ n ∧ DG W wr gb (gb + 1) (KE n) (nfE n) (lE n) (rE n ++ [(2, (n : Int))]) k 0) (fun c _ => n + 1 - (intOf c).toNat)
        case atStart => exact ⟨0, rfl, by omega, HE0.out⟩
        case round =>
          obtain ⟨k, rfl, hkn, hD⟩ := hrel
          by_cases hgo : k < n
          · have q1 : decide (((k + 1 : Nat) : Int) ≤ (n : Int)) = true := by simp; omega
            have c0 := hD.2.1.cell (i := 0) rfl
            have c1 := hD.2.1.cell (i := 1) rfl
            have hls := hD.2.1.lt
            have hw1 : wrap64 (((k + 1 : Nat) : Int) + 1) = ((k + 2 : Nat) : Int) := by have := HM.out.2; unfold wrap64; omega
            obtain ⟨ix, hix⟩ : ∃ ix : Int, ((k + 1 : Nat) : Int) = ix := ⟨_, rfl⟩
            obtain ⟨iy, hiy⟩ : ∃ iy : Int, ((k + 2 : Nat) : Int) = iy := ⟨_, rfl⟩
            rw [hix] at q1 hw1
            rw [hiy] at hw1
            rw [hix]
            have oX : Out 0 0 wr (wr.alloc (.cells #[.int .i64 3, .int .i64 3] 28)) := (Out.refl 0 0 wr).alloc _
            have vX : VB (wr.alloc (.cells #[.int .i64 3, .int .i64 3] 28)) wr.heap.size (lE n k) := by
              rw [show lE n k = [(3, 3)] from if_pos hgo]
              exact vb_one (Bl.new _ _ _)
            obtain ⟨a, ac, rv, a', cap', Z, s0, -, s1, r1, z0, z1, hD2⟩ := node_app hD oX vX (Nat.le_refl _) (by have := HM.out.2; omega) HGB.out hix
            rw [show KE n k = 2 from if_pos hgo, show nfE n k = 1 from if_pos hgo, size_alloc] at r1
            have HQ := hid_mk (And.intro hgo (And.intro hix hiy))
            have HR := hid_mk r1
            have HE := hid_mk hD2
            clear hD hgo hkn hix hiy oX vX r1 hD2 s1
            go_wp2_with (at_builtin; refine app_st rfl _ _ _ _ rfl rfl rfl HR.out ?_)
            exact ⟨⟨k + 1, by rw [hw1, ← HQ.out.2.2], HQ.out.1, HE.out⟩, by rw [hw1, ← HQ.out.2.1, ← HQ.out.2.2]; have := HQ.out.1; simp only [intOf]; omega⟩
          · obtain rfl : n = k := by omega
            obtain ⟨m1, hm1⟩ : ∃ x : Int, ((n + 1 : Nat) : Int) = x := ⟨_, rfl⟩
            have q1 : decide (m1 ≤ (n : Int)) = false := by simp; omega
            have HE1 := hid_mk hD
            rw [hm1]
            clear hD hgo hkn HE0 hm1
            go_wp2_with fail
            go_loopw [14] (fun c wq => ∃ k : Nat, c = .int .i64 ((k + 1 : Nat) : Int) ∧ k ≤ n ∧ DG W wq gb (gb + 1) (KE n) (nfE n) (lE n) (rE n ++ [(2, (n : Int))]) (n + k) k) (fun c _ => n + 1 - (intOf c).toNat)
            case atStart => exact ⟨0, rfl, by omega, HE1.out⟩
            case round =>
              obtain ⟨k, rfl, hkn, hD⟩ := hrel
              by_cases hgo : k < n
              · have q1 : decide (((k + 1 : Nat) : Int) ≤ (n : Int)) = true := by simp; omega
                have c0 := hD.2.1.cell (i := 0) rfl
                have c1 := hD.2.1.cell (i := 1) rfl
                have hls := hD.2.1.lt
                have hw1 : wrap64 (((k + 1 : Nat) : Int) + 1) = ((k + 2 : Nat) : Int) := by have := HM.out.2; unfold wrap64; omega
                have hwA : wrap64 ((n : Int) + 1) = ((n + 1 : Nat) : Int) := by have := HM.out.2; unfold wrap64; omega
                have hwB : wrap64 (((n + 1 : Nat) : Int) - ((k + 1 : Nat) : Int)) = (n : Int) - k := by have := HM.out.2; unfold wrap64; omega
                have hwC : wrap64 ((n : Int) + ((k + 1 : Nat) : Int)) = ((n + k + 1 : Nat) : Int) := by have := HM.out.2; unfold wrap64; omega
                have hwD : wrap64 (2 * (n : Int)) = ((2 * n : Nat) : Int) := by have := HM.out.2; unfold wrap64; omega
                have hwE : wrap64 (((2 * n : Nat) : Int) + 1) = ((2 * n + 1 : Nat) : Int) := by have := HM.out.2; unfold wrap64; omega
                have hwF : wrap64 (((2 * n + 1 : Nat) : Int) - ((k + 1 : Nat) : Int)) = 2 * (n : Int) - k := by have := HM.out.2; unfold wrap64; omega
                have hwG : wrap64 ((n : Int) - ((k + 1 : Nat) : Int)) = (n : Int) - k - 1 := by have := HM.out.2; unfold wrap64; omega
                have hroot : (rE n ++ [(2, (n : Int))])[k]? = some (2, 2 * (n : Int) - k) := by
                  rw [List.getElem?_append_left (by rw [rE_len]; exact hgo)]
                  unfold rE
                  rw [List.getElem?_map, List.getElem?_range hgo]
                  rfl
                obtain ⟨ix, hix⟩ : ∃ ix : Int, ((k + 1 : Nat) : Int) = ix := ⟨_, rfl⟩
                obtain ⟨iy, hiy⟩ : ∃ iy : Int, ((k + 2 : Nat) : Int) = iy := ⟨_, rfl⟩
                obtain ⟨n1, hn1⟩ : ∃ x : Int, ((n + 1 : Nat) : Int) = x := ⟨_, rfl⟩
                obtain ⟨nk, hnk⟩ : ∃ x : Int, (n : Int) - k = x := ⟨_, rfl⟩
                obtain ⟨nd, hnd⟩ : ∃ x : Int, ((n + k + 1 : Nat) : Int) = x := ⟨_, rfl⟩
                obtain ⟨n2, hn2⟩ : ∃ x : Int, ((2 * n : Nat) : Int) = x := ⟨_, rfl⟩
                obtain ⟨n3, hn3⟩ : ∃ x : Int, ((2 * n + 1 : Nat) : Int) = x := ⟨_, rfl⟩
                obtain ⟨rx, hrx⟩ : ∃ x : Int, 2 * (n : Int) - k = x := ⟨_, rfl⟩
                obtain ⟨vv, hvv⟩ : ∃ x : Int, (n : Int) - k - 1 = x := ⟨_, rfl⟩
                rw [hix] at q1 hw1 hwB hwC hwF hwG
                rw [hiy] at hw1
                rw [hn1] at hwA hwB
                rw [hvv] at hwG
                rw [hnk] at hwB
                rw [hnd] at hwC
                rw [hn2] at hwD hwE
                rw [hn3] at hwE hwF
                rw [hrx] at hwF hroot
                rw [hix]
                have HQ := hid_mk (And.intro hgo (And.intro hix (And.intro hiy (And.intro hnk (And.intro hnd (And.intro hroot hvv))))))
                have HDD := hid_mk hD
                clear hD hgo hkn hix hiy hn1 hnk hnd hn2 hn3 hrx hvv hroot
                by_cases hlast : k + 1 = n
                · have hlt : decide (ix < (n : Int)) = false := by have := HQ.out.2.1; have := HQ.out.1; simp; omega
                  have oX : Out 0 0 wr (((wr.alloc (.cells #[.int .i64 3, .int .i64 3] 28)).alloc (.cells #[.int .i64 2, .int .i64 nk] 28)).alloc (.cells #[.int .i64 2, .int .i64 nk, .int .i64 3, .int .i64 3] 28)) := (((Out.refl 0 0 wr).alloc _).alloc _).alloc _
                  have vX : VB (((wr.alloc (.cells #[.int .i64 3, .int .i64 3] 28)).alloc (.cells #[.int .i64 2, .int .i64 nk] 28)).alloc (.cells #[.int .i64 2, .int .i64 nk, .int .i64 3, .int .i64 3] 28)) (wr.heap.size + 1 + 1) (lE n (n + k)) := by
                    have e : lE n (n + k) = [(2, nk), (3, 3)] := by
                      have e1 : lE n (n + k) = [(2, (n : Int) - (n + k - n : Nat)), vE n (n + k - n)] := if_neg (by omega)
                      rw [e1, show n + k - n = k by omega, HQ.out.2.2.2.1]
                      have e2 : vE n k = (3, 3) := by unfold vE; rw [if_neg (by have := HQ.out.1; omega)]
                      rw [e2]
                    rw [e]
                    have h1 := Bl.new ((wr.alloc (.cells #[.int .i64 3, .int .i64 3] 28)).alloc (.cells #[.int .i64 2, .int .i64 nk] 28)) #[.int .i64 2, .int .i64 nk, .int .i64 3, .int .i64 3] 28
                    rw [size_alloc, size_alloc] at h1
                    exact vb_two h1
                  obtain ⟨a, ac, rv, a', cap', Z, s0, -, s1, r1, z0, z1, hD2⟩ := node_app HDD.out oX vX (by omega) (by have := HQ.out.1; have := HM.out.2; omega) HGB.out HQ.out.2.2.2.2.1
                  rw [show KE n (n + k) = 9 from if_neg (by omega), show nfE n (n + k) = 2 from if_neg (by omega), size_alloc, size_alloc, size_alloc] at r1
                  have HR := hid_mk r1
                  have HE3 := hid_mk hD2
                  have hgl : gb < wr.heap.size := cell_lt s0
                  have hgl2 : gb < wr.heap.size + 1 := by omega
                  have hgl3 : gb < wr.heap.size + 1 + 1 := by omega
                  clear oX vX r1 hD2 s1 hlast
                  go_upto_region 32 with (at_builtin; refine app_st rfl _ _ _ _ rfl rfl rfl HR.out ?_)
                  obtain ⟨V1, hV1⟩ : ∃ V1, Z.setCell ⟨gb, 0, none⟩ (.slice a' (n + k + 1) cap') = V1 := ⟨_, rfl⟩
                  rw [hV1] at HE3 ⊢
                  have hvl := HE3.out.2.1.lt
                  obtain ⟨ra, rc, av, b', capb, Z2, t0, -, t1, r2, y0, y1, hD3⟩ := root_app HE3.out (Out.refl _ _ _) HQ.out.2.2.2.2.2.1 (by have := HQ.out.1; have := HM.out.2; omega) HGB.out hvl
                  have HR2 := hid_mk r2
                  have HE4 := hid_mk hD3
                  clear r2 hD3 t1 hV1 HE3 HR s0 z0 z1 hvl c0 c1 hls hgl hgl2 hgl3
                  go_wp2_with (at_builtin; refine app_st rfl _ _ _ _ rfl rfl rfl HR2.out ?_)
                  exact ⟨⟨k + 1, by rw [hw1, ← HQ.out.2.2.1], HQ.out.1, HE4.out⟩, by rw [hw1, ← HQ.out.2.1, ← HQ.out.2.2.1]; have := HQ.out.1; simp only [intOf]; omega⟩
                · have hlt : decide (ix < (n : Int)) = true := by have := HQ.out.2.1; have := HQ.out.1; simp; omega
                  have oX : Out 0 0 wr (((wr.alloc (.cells #[.int .i64 2, .int .i64 vv] 28)).alloc (.cells #[.int .i64 2, .int .i64 nk] 28)).alloc (.cells #[.int .i64 2, .int .i64 nk, .int .i64 2, .int .i64 vv] 28)) := (((Out.refl 0 0 wr).alloc _).alloc _).alloc _
                  have vX : VB (((wr.alloc (.cells #[.int .i64 2, .int .i64 vv] 28)).alloc (.cells #[.int .i64 2, .int .i64 nk] 28)).alloc (.cells #[.int .i64 2, .int .i64 nk, .int .i64 2, .int .i64 vv] 28)) (wr.heap.size + 1 + 1) (lE n (n + k)) := by
                    have e : lE n (n + k) = [(2, nk), (2, vv)] := by
                      have e1 : lE n (n + k) = [(2, (n : Int) - (n + k - n : Nat)), vE n (n + k - n)] := if_neg (by omega)
                      rw [e1, show n + k - n = k by omega, HQ.out.2.2.2.1]
                      have e2 : vE n k = (2, vv) := by unfold vE; rw [if_pos (by have := HQ.out.1; omega)]; rw [HQ.out.2.2.2.2.2.2]
                      rw [e2]
                    rw [e]
                    have h1 := Bl.new ((wr.alloc (.cells #[.int .i64 2, .int .i64 vv] 28)).alloc (.cells #[.int .i64 2, .int .i64 nk] 28)) #[.int .i64 2, .int .i64 nk, .int .i64 2, .int .i64 vv] 28
                    rw [size_alloc, size_alloc] at h1
                    exact vb_two h1
                  obtain ⟨a, ac, rv, a', cap', Z, s0, -, s1, r1, z0, z1, hD2⟩ := node_app HDD.out oX vX (by omega) (by have := HQ.out.1; have := HM.out.2; omega) HGB.out HQ.out.2.2.2.2.1
                  rw [show KE n (n + k) = 9 from if_neg (by omega), show nfE n (n + k) = 2 from if_neg (by omega), size_alloc, size_alloc, size_alloc] at r1
                  have HR := hid_mk r1
                  have HE3 := hid_mk hD2
                  have hgl : gb < wr.heap.size := cell_lt s0
                  have hgl2 : gb < wr.heap.size + 1 := by omega
                  have hgl3 : gb < wr.heap.size + 1 + 1 := by omega
                  clear oX vX r1 hD2 s1 hlast
                  go_upto_region 32 with (at_builtin; refine app_st rfl _ _ _ _ rfl rfl rfl HR.out ?_)
                  obtain ⟨V1, hV1⟩ : ∃ V1, Z.setCell ⟨gb, 0, none⟩ (.slice a' (n + k + 1) cap') = V1 := ⟨_, rfl⟩
                  rw [hV1] at HE3 ⊢
                  have hvl := HE3.out.2.1.lt
                  obtain ⟨ra, rc, av, b', capb, Z2, t0, -, t1, r2, y0, y1, hD3⟩ := root_app HE3.out (Out.refl _ _ _) HQ.out.2.2.2.2.2.1 (by have := HQ.out.1; have := HM.out.2; omega) HGB.out hvl
                  have HR2 := hid_mk r2
                  have HE4 := hid_mk hD3
                  clear r2 hD3 t1 hV1 HE3 HR s0 z0 z1 hvl c0 c1 hls hgl hgl2 hgl3
                  go_wp2_with (at_builtin; refine app_st rfl _ _ _ _ rfl rfl rfl HR2.out ?_)
                  exact ⟨⟨k + 1, by rw [hw1, ← HQ.out.2.2.1], HQ.out.1, HE4.out⟩, by rw [hw1, ← HQ.out.2.1, ← HQ.out.2.2.1]; have := HQ.out.1; simp only [intOf]; omega⟩
              · obtain rfl : n = k := by omega
                obtain ⟨m2, hm2⟩ : ∃ x : Int, ((n + 1 : Nat) : Int) = x := ⟨_, rfl⟩
                have q1 : decide (m2 ≤ (n : Int)) = false := by simp; omega
                rw [hm2]
                rw [show n + n = 2 * n by omega] at hD
                obtain ⟨N, hN⟩ : ∃ N, 2 * n = N := ⟨_, rfl⟩
                have hD' := hD
                rw [hN] at hD'
                obtain ⟨f1, f2, a, ac, tb, ra, rc, f3, f4, f5, f6, f7⟩ := hD'
                have htk : (rE n ++ [((2, (n : Int)) : VP)]).take n = rE n := by rw [List.take_append_of_le_length (by rw [rE_len]; omega), List.take_of_length_le (by rw [rE_len]; omega)]
                rw [htk] at f5
                obtain ⟨v1, v2⟩ := own_vs (l := rE n) (by rw [rE_len]; exact f5)
                obtain ⟨gn, hgn, hp⟩ := told_pgr f4 (by have := HM.out.1; omega) (fun i _ => lE_len n i) v1 (rE_len n) (hN ▸ okE HM.out.1 HM.out.2 (rE n) (fun v hv => by
                  obtain ⟨t, ht, rfl⟩ := rE_mem.1 hv
                  show (2 : Int) = 2 ∧ 1 ≤ 2 * (n : Int) - t ∧ 2 * (n : Int) - t ≤ 2 * (n : Int)
                  omega)) (by have := HM.out.2; omega) (by have := HM.out.2; omega) (fun q hq => by obtain ⟨cs, hc⟩ := v2 q hq; exact heap_lt hc) (fun i hi => ⟨by unfold nfE; split <;> omega, fun e => by unfold KE at e; unfold nfE; split at e <;> split <;> omega⟩)
                have HL := hid_mk (live_plain (cn := ac) (rc := rc) (HT.out.quiet f1) hp ⟨(n : Int) + 1, hN ▸ (lvE1 (n := n) _).2 (by have := HM.out.1; omega)⟩)
                have c0 := f3.cell (i := 0) rfl
                have c1 := f3.cell (i := 1) rfl
                have HE2 := hid_mk (And.intro hD (And.intro f3 hN))
                subst hgn
                clear hD hgo hkn HE1 hm2 f1 f2 f3 f4 f5 f6 f7 htk v1 v2 hp hN
                go_wp2_with fail
                refine HL.out.mono ?_
                rintro e w7 ⟨ks, ka, kc, rfl, k1, k2, k3, o7⟩
                have hks : ks.length = n := rng_len (a := n) k1 (fun y => (k2 y).trans (by rw [← HE2.out.2.2]; exact lvE1 y))
                rw [hks]
                have hD7 := HE2.out.1.quiet o7
                have hroot : (rE n ++ [((2, (n : Int)) : VP)])[n]? = some (2, (n : Int)) := by rw [List.getElem?_append_right (by rw [rE_len]; omega), rE_len, Nat.sub_self]; rfl
                obtain ⟨ra2, rc2, av, b', capb, Z2, t0, -, t1, r2, y0, y1, hD3⟩ := root_app hD7 (Out.refl _ _ _) hroot (by have := HM.out.2; omega) HGB.out hD7.2.1.lt
                have HR2 := hid_mk r2
                have HE4 := hid_mk hD3
                have hwD : wrap64 (2 * (n : Int)) = ((2 * n : Nat) : Int) := by have := HM.out.2; unfold wrap64; omega
                clear HL k1 k2 k3 hks o7 hD7 hroot r2 hD3 c0 c1 t1
                go_upto_region 36 with (at_builtin; refine app_st rfl _ _ _ _ rfl rfl rfl HR2.out ?_)
                obtain ⟨V8, hV8⟩ : ∃ V8, Z2.setCell ⟨gb, 1, none⟩ (.slice b' (n + 1) capb) = V8 := ⟨_, rfl⟩
                rw [hV8] at HE4 ⊢
                have hD8 := HE4.out
                rw [HE2.out.2.2] at hD8
                obtain ⟨f1, f2, a3, ac3, tb3, ra3, rc3, f3, f4, f5, f6, f7⟩ := hD8
                have htk : (rE n ++ [((2, (n : Int)) : VP)]).take (n + 1) = rE n ++ [(2, (n : Int))] := List.take_of_length_le (by simp [rE_len])
                rw [htk] at f5
                have hl9 : (rE n ++ [((2, (n : Int)) : VP)]).length = n + 1 := by simp [rE_len]
                obtain ⟨v1, v2⟩ := own_vs (l := rE n ++ [(2, (n : Int))]) (by rw [hl9]; exact f5)
                obtain ⟨gn3, hgn, hp⟩ := told_pgr f4 (by have := HM.out.1; have := HE2.out.2.2; omega) (fun i _ => lE_len n i) v1 hl9 (HE2.out.2.2 ▸ okE HM.out.1 HM.out.2 (rE n ++ [(2, (n : Int))]) (fun v hv => by
                  rw [List.mem_append] at hv
                  rcases hv with hv | hv
                  · obtain ⟨t, ht, rfl⟩ := rE_mem.1 hv
                    show (2 : Int) = 2 ∧ 1 ≤ 2 * (n : Int) - t ∧ 2 * (n : Int) - t ≤ 2 * (n : Int)
                    omega
                  · simp at hv
                    subst hv
                    have := HM.out.1
                    show (2 : Int) = 2 ∧ 1 ≤ (n : Int) ∧ (n : Int) ≤ 2 * (n : Int)
                    omega)) (by have := HM.out.2; have := HE2.out.2.2; omega) (by have := HM.out.2; omega) (fun q hq => by obtain ⟨cs, hc⟩ := v2 q hq; exact heap_lt hc) (fun i hi => ⟨by unfold nfE; split <;> omega, fun e => by unfold KE at e; unfold nfE; split at e <;> split <;> omega⟩)
                have HL := hid_mk (live_plain (cn := ac3) (rc := rc3) (HT.out.quiet f1) hp ⟨1, HE2.out.2.2 ▸ (lvE2 (n := n) HM.out.1 _).2 (by have := HM.out.1; omega)⟩)
                have c0 := f3.cell (i := 0) rfl
                have c1 := f3.cell (i := 1) rfl
                have HF1 := hid_mk f1
                subst hgn
                clear HR2 y0 y1 t0 hV8 f1 f2 f3 f4 f5 f6 f7 htk hl9 v1 v2 hp
                go_wp2_with fail
                refine HL.out.mono ?_
                rintro e w9 ⟨ks, ka, kc, rfl, k1, k2, k3, o9⟩
                have hks : ks.length = 2 * n := rng_len (a := 0) k1 (fun y => (k2 y).trans (by rw [← HE2.out.2.2]; exact lvE2 HM.out.1 y))
                rw [hks]
                have HO9 := hid_mk (HF1.out.trans o9)
                clear HL k1 k2 k3 hks o9 c0 c1
                go_wp2_with fail
                go_ret
                exact ⟨rfl, HO9.out⟩
  · have HE := hid_mk hm
    by_cases h1 : m < 1
    · have g1 : decide (m < 1) = true := by simpa using h1
      clear hm
      go_enter Tryz.func3, Tryz.ntmps3
      go_wp2_with fail
      refine (alive_any HT.out).mono ?_
      rintro e w1 ⟨rfl, o1⟩
      have HO1 := hid_mk o1
      clear o1
      go_wp2_with fail
      refine (alive_any (HT.out.quiet HO1.out)).mono ?_
      rintro e w2 ⟨rfl, o2⟩
      have HO2 := hid_mk (HO1.out.trans o2)
      clear o2
      go_wp2_with fail
      go_ret
      exact ⟨rfl, HO2.out⟩
    · have g1 : decide (m < 1) = false := by simpa using h1
      have g2 : decide (30000 < m) = true := by have := HE.out; simp; omega
      clear hm
      go_enter Tryz.func3, Tryz.ntmps3
      go_wp2_with fail
      refine (alive_any HT.out).mono ?_
      rintro e w1 ⟨rfl, o1⟩
      have HO1 := hid_mk o1
      clear o1
      go_wp2_with fail
      refine (alive_any (HT.out.quiet HO1.out)).mono ?_
      rintro e w2 ⟨rfl, o2⟩
      have HO2 := hid_mk (HO1.out.trans o2)
      clear o2
      go_wp2_with fail
      go_ret
      exact ⟨rfl, HO2.out⟩
end Go.Proofs.YtocncffplcfpbaaGreatDoor
