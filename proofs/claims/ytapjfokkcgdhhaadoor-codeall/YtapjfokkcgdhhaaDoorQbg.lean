import Derived.Test.YtapjfokkcgdhhaaDoorQaq
import Derived.Deep.Cut
namespace Go.Proofs.YtapjfokkcgdhhaaDoor
open Go.RowKit
set_option linter.unusedVariables false
set_option linter.unusedSimpArgs false

set_option maxRecDepth 100000 in
set_option maxHeartbeats 4000000 in
theorem lent_any {w : World} {B : Nat} (hB : B ≤ w.heap.size) (x : Int) (ts : List (List Int)) (fs : List (Int × Int × Int × List (Int × Int))) (ta fa : Option Addr) (nt tc nf fc : Nat) (hnt : ts.length = nt) (hnf : fs.length = nf) (hts : TxIn w B ta ts) (hfs : FnIn w B fa fs) (hl1 : nt + nf ≤ 300000) (hl2 : ∀ f ∈ fs, f.2.2.2.length ≤ 300000) (hl3 : ∀ t ∈ ts, t.length ≤ 300000) :
    Calls Tryd.prog 19 #[.agg #[.int .i64 x, .slice ta nt tc, .slice fa nf fc]] w (LnQ w x ts fs) := by
  obtain ⟨b, hb⟩ : ∃ b, w.heap.size = b := ⟨_, rfl⟩
  have HL0 : Hid (LS w (((w.alloc (.cells #[.int .i64 x, .slice ta nt tc, .slice fa nf fc] 35)).alloc (.cells #[.int .i64 0, .slice none 0 0, .slice none 0 0] 35)).alloc (.cells #[.int .i64 x, .slice none 0 0, .slice none 0 0] 35)) b #[.int .i64 x, .slice ta nt tc, .slice fa nf fc] x [7, 8] [(-7, 0)] ts fs 0 none 0 [] 0 none 0 []) := by
    refine hid_mk ⟨?_, World.ownsRow_nil _ _ _ 1, ⟨by simp, fun j v t q => by simp at q⟩, World.ownsRow_nil _ _ _ 4, ⟨by simp, (fun j v t q => by simp at q), fun i j a b k h q => by simp at q⟩, (((Out.refl 0 0 w).alloc _).alloc _).alloc _, hb⟩
    rw [← hb]
    refine ⟨((Bl.new _ _ _).alloc _).alloc _, ?_, ?_⟩
    · have := (Bl.new (w.alloc (.cells #[.int .i64 x, .slice ta nt tc, .slice fa nf fc] 35)) #[.int .i64 0, .slice none 0 0, .slice none 0 0] 35).alloc (.cells #[.int .i64 x, .slice none 0 0, .slice none 0 0] 35)
      rwa [size_alloc] at this
    · have := Bl.new ((w.alloc (.cells #[.int .i64 x, .slice ta nt tc, .slice fa nf fc] 35)).alloc (.cells #[.int .i64 0, .slice none 0 0, .slice none 0 0] 35)) #[.int .i64 x, .slice none 0 0, .slice none 0 0] 35
      rwa [size_alloc, size_alloc] at this
  have HH := hid_mk (And.intro hB (And.intro hnt (And.intro hnf (And.intro hts (And.intro hfs (And.intro hl1 (And.intro hl2 hl3)))))))
  clear hB hnt hnf hts hfs hl1 hl2 hl3
  have k0 := (Bl.new w #[.int .i64 x, .slice ta nt tc, .slice fa nf fc] 35).cell (i := 0) rfl
  rw [hb] at k0
  go_enter Tryd.func19, Tryd.ntmps19
  go_wp2
  obtain ⟨V, hV⟩ : ∃ V, ((w.alloc (.cells #[.int .i64 x, .slice ta nt tc, .slice fa nf fc] 35)).alloc (.cells #[.int .i64 0, .slice none 0 0, .slice none 0 0] 35)).alloc (.cells #[.int .i64 x, .slice none 0 0, .slice none 0 0] 35) = V := ⟨_, rfl⟩
  rw [hV] at HL0 ⊢
  clear hV hb k0
  go_loopw [4] (fun c wr => ∃ (i : Nat) (qa : Option Addr) (qk : Nat) (vs : List Value), c = .int .i64 i ∧ i ≤ nt ∧ LS w wr b #[.int .i64 x, .slice ta nt tc, .slice fa nf fc] x [7, 8] [(-7, 0)] ts fs i qa qk vs 0 none 0 []) (fun c _ => nt - (intOf c).toNat)
  case atStart => exact ⟨0, none, 0, [], rfl, Nat.zero_le _, HL0.out⟩
  case round =>
    obtain ⟨i, qa, qk, vs, rfl, him, hS⟩ := hrel
    have HS := hid_mk hS
    have k1 := hS.1.1.cell (i := 1) rfl
    by_cases hgo : i < nt
    · obtain ⟨l1, l2⟩ := lt_d hgo
      obtain ⟨hB, hnt, hnf, hts, hfs, hl1, hl2, hl3⟩ := HH.out
      obtain ⟨t, ht⟩ : ∃ t, ts[i]? = some t := ⟨_, List.getElem?_eq_getElem (by omega)⟩
      obtain ⟨g, off, pj, cj, rfl, hg, c1, hby⟩ := tx_cellX (hts.kept (C := B) (Lo.of_out hS.2.2.2.2.2.1) (Nat.le_refl _)) ht
      obtain ⟨n, hn⟩ : ∃ n, t.length = n := ⟨_, rfl⟩
      have hn3 : n ≤ 300000 := by have := hl3 t (List.mem_of_getElem? ht); omega
      rw [hn] at c1
      obtain ⟨a1, p1, w1, hr1, q1, o1⟩ := cp_at (c := cj) Tryd.underlying22 info_u8 rfl (by decide) (by decide) (by_src hby hn) (by rw [bvs_len, hn, Nat.mul_one]) bvs_one (by omega) 22
      have oa : Out 0 0 w1 (w1.alloc (.cells #[.int .u8 7, .int .u8 8] 5)) := (Out.refl 0 0 w1).alloc _
      obtain ⟨g2, p2, w2, hr2, q2, x2⟩ := mk_at (c := 2) (m := 2) (zs := bvs [7, 8]) Tryd.underlying22 info_u8 rfl (by decide) (by decide) (own_fx (S := fun _ => False) q1 (Fx.of_out oa) (fun _ _ q => q)) (Nat.le_trans o1.size oa.size) (Bl.new _ _ _) rfl bvs_one (by omega) (by decide) (by decide) 22
      have hBt : Byt t := hby.1
      have o2 : Out 0 0 wr w2 := out_fx (o1.trans oa) x2 (fun k hk => (own_ge q1 hk).1)
      have HR1 := hid_mk hr1
      have HR2 := hid_mk hr2
      have hsl := slice_to2 und_bs elem_bs info_u8 g2 (n + 2) p2 n (by have := own_cap q2; omega)
      have HT : Hid (TxL w2 (b + 3) [7, 8] (.slice (some ⟨g2, 0, none⟩) n p2) t) := hid_mk ⟨hBt, _, _, by rw [hn], by rw [hn, bvs_app]; exact Go.Joins.ownsRow_le q2 hS.size⟩
      have HSw := hid_mk (hS.quiet o2)
      have d1 := HSw.out.1.2.2.cell (i := 1) rfl
      have d2 := HSw.out.1.1.cell (i := 1) rfl
      have d3 := o2.cell c1 (.inr (Nat.zero_le _))
      have HI : Hid (ts[i]? = some t ∧ i < nt ∧ nt ≤ 300000 ∧ g < b) := hid_mk ⟨ht, hgo, by omega, by have := hS.2.2.2.2.2.2; omega⟩
      have lmi : (i : Int) < (nt : Int) := by omega
      clear hS hB hnt hnf hts hfs hl1 hl2 hl3 ht hg hby hn hn3 hr1 hr2 q1 q2 o1 oa x2 hBt o2 him hgo
      go_wp2_with (at_builtin; first | refine app_st rfl _ _ _ _ rfl rfl rfl HR1.out ?_ | refine app_st rfl _ _ _ _ rfl rfl rfl HR2.out ?_)
      obtain ⟨V3, hV3⟩ : ∃ V3, w2.drew = V3 := ⟨_, rfl⟩
      refine wp_region_T (S := fun w' => w'.cell? ⟨b + 1 + 1, 1, none⟩ = some (.slice qa i qk) ∧ w'.cell? ⟨b, 1, none⟩ = some (.slice (some ⟨g, off, none⟩) nt tc) ∧ w'.cell? ⟨g, off + i, none⟩ = some (.slice pj n cj)) (z := 13) (by kernel_rfl) ?hS1 (fun hHeld => ?rest1)
      case hS1 => exact ⟨d1, d2, d3⟩
      refine tkT 0 ?_
      refine tkT 1 ?_
      refine tkT 2 ?_
      refine tkT 3 ?_
      refine tkT 4 ?_
      refine tkT 5 ?_
      refine tkT 6 ?_
      refine tkT 7 ?_
      refine tkT 8 ?_
      refine tkT 9 ?_
      refine wpAnyT_one (i := 10) (by kernel_rfl) rfl (fun KK hK => ?_)
      simp only [xa, xb, xc]
      go_simp
      obtain ⟨X1, hX1⟩ : ∃ X1, V3.alloc (.cells #[.slice (some ⟨g2, 0, none⟩) n p2] 22) = X1 := ⟨_, rfl⟩
      obtain ⟨t1, ht1⟩ : ∃ t1, V3.heap.size = t1 := ⟨_, rfl⟩
      rw [hX1, ht1]
      have o9 : Out 0 0 w2 X1 := by rw [← hX1, ← hV3]; exact ((Out.refl 0 0 w2).drew).alloc _
      have HX1 : Hid (Bl X1 t1 #[.slice (some ⟨g2, 0, none⟩) n p2] 22) := hid_mk (by rw [← hX1, ← ht1]; exact Bl.new _ _ _)
      clear hX1 ht1
      refine hK.out _ _ ?hS12 (fun hHeld2 => ?rest12)
      case hS12 => exact ⟨o9.cell d1 (.inr (Nat.zero_le _)), o9.cell d2 (.inr (Nat.zero_le _)), o9.cell d3 (.inr (Nat.zero_le _))⟩
      clear hK KK
      (try clear hHeld)
      have hHeld := hHeld2
      clear hHeld2
      (try simp only [Act.put, xa, xb, xc, xd, xe, xf])
      refine wpAnyT_one (i := 11) (by kernel_rfl) rfl (fun KK hK => ?_)
      simp only [xa, xb, xc]
      obtain ⟨g4, cap4, w6, hr, z1, z2⟩ := mk_at (m := 1) (c := 1) (zs := [.slice (some ⟨g2, 0, none⟩) n p2]) Tryd.underlying25 info_bs rfl (by decide) (by decide) (HSw.out.quiet o9).2.1 (by have := (HSw.out.quiet o9).size; exact this) HX1.out rfl (by intro u hu; simp at hu; subst hu; rfl) (by have := HI.out; omega) (by decide) (by decide) 25
      refine app_sr X1 _ _ _ _ rfl _ _ rfl rfl hr ?_
      refine hK.out _ _ ?hS13 (fun hHeld2 => ?rest13)
      case hS13 => exact ⟨((HSw.out.quiet o9).1.fx z2 (fun k hk e => by have := (own_ge (HSw.out.quiet o9).2.1 e).1; omega)).2.2.cell (i := 1) rfl, ((HSw.out.quiet o9).1.fx z2 (fun k hk e => by have := (own_ge (HSw.out.quiet o9).2.1 e).1; omega)).1.cell (i := 1) rfl, z2.cell (o9.cell d3 (.inr (Nat.zero_le _))) (fun e => by have := (own_ge (HSw.out.quiet o9).2.1 e).1; have := HI.out; omega)⟩
      clear hK KK
      (try clear hHeld)
      have hHeld := hHeld2
      clear hHeld2
      (try simp only [Act.put, xa, xb, xc, xd, xe, xf])
      refine tkT 12 ?_
      refine wpAnyT_last (by kernel_rfl) rfl (fun KK hK => ?_)
      simp only [xa, xb, xc]
      have s9 := hHeld.1
      have z9 := ((HSw.out.quiet o9).1.fx z2 (fun k hk e => by have := (own_ge (HSw.out.quiet o9).2.1 e).1; omega)).2.2.frozen 1
      go_simp
      refine hK.out _ _ ?_
      clear hK KK
      (try simp only [Act.put, xa, xb, xc, xd, xe, xf])
      refine wpAnyT_done (by kernel_rfl) ?_ _
      have hS6 := (HSw.out.quiet o9).stepT HI.out.1 (HT.out.fx (Q := fun _ => False) (Fx.of_out o9) (fun _ _ q => q)) z1 z2
      obtain ⟨W6, hW6⟩ : ∃ W6, w6.setCell ⟨b + 1 + 1, 1, none⟩ (.slice (some ⟨g4, 0, none⟩) (i + 1) cap4) = W6 := ⟨_, rfl⟩
      rw [hW6] at hS6 ⊢
      have HS6 := hid_mk hS6
      clear hS6 hW6 hr z1 z2 o9 HX1 hHeld hV3 d1 d2 d3 HT HSw HR1 HR2 hsl k1 c1 HS
      go_wp2
      exact ⟨⟨i + 1, some ⟨g4, 0, none⟩, cap4, vs ++ [.slice (some ⟨g2, 0, none⟩) n p2], up_V HI.out.2.1 (by have := HI.out; omega), HI.out.2.1, HS6.out⟩, by rw [up_W HI.out.2.1 (by have := HI.out; omega)]; exact ms_N HI.out.2.1⟩
    · obtain rfl : nt = i := by omega
      have l1 : decide ((nt : Int) < (nt : Int)) = false := by simp
      clear hgo hS him HL0
      go_wp2
      clear k1
      go_loopw [6] (fun c wr => ∃ (j : Nat) (ra : Option Addr) (rk : Nat) (cs : List Value), c = .int .i64 j ∧ j ≤ nf ∧ LS w wr b #[.int .i64 x, .slice ta nt tc, .slice fa nf fc] x [7, 8] [(-7, 0)] ts fs nt qa qk vs j ra rk cs) (fun c _ => nf - (intOf c).toNat)
      case atStart => exact ⟨0, none, 0, [], rfl, Nat.zero_le _, HS.out⟩
      case round =>
        obtain ⟨j, ra, rk, cs, rfl, hjm, hS2⟩ := hrel
        have HS2 := hid_mk hS2
        have k2 := hS2.1.1.cell (i := 2) rfl
        by_cases hgo : j < nf
        · obtain ⟨l1, l2⟩ := lt_d hgo
          obtain ⟨hB, hnt, hnf, hts, hfs, hl1, hl2, hl3⟩ := HH.out
          obtain ⟨⟨P, L, C, cd⟩, hf⟩ : ∃ f, fs[j]? = some f := ⟨_, List.getElem?_eq_getElem (by omega)⟩
          obtain ⟨g, off, pj, cj, rfl, hg, c0, c1, c2, c3, hin⟩ := fn_cell (hfs.kept (C := B) (Lo.of_out hS2.2.2.2.2.2.1) (Nat.le_refl _)) hf
          simp only [] at c0 c1 c2 c3 hin
          obtain ⟨n, hn⟩ : ∃ n, cd.length = n := ⟨_, rfl⟩
          have hn3 : n ≤ 300000 := by have := hl2 _ (List.mem_of_getElem? hf); simp only [] at this; omega
          rw [hn] at c3
          have lmi : (j : Int) < (nf : Int) := by omega
          obtain ⟨G, hG⟩ : ∃ G, wr.heap.size = G := ⟨_, rfl⟩
          have ob : Out 0 0 wr (wr.alloc (.cells #[.int .i64 P, .int .i64 L, .int .i64 C, .slice pj n cj] 40)) := (Out.refl 0 0 wr).alloc _
          have bf := Bl.new wr #[.int .i64 P, .int .i64 L, .int .i64 C, .slice pj n cj] 40
          rw [hG] at bf
          obtain ⟨a1, p1, w1, hr1, q1, o1⟩ := cp_at (w := wr.alloc (.cells #[.int .i64 P, .int .i64 L, .int .i64 C, .slice pj n cj] 40)) (c := cj) Tryd.underlying38 info_in rfl (by decide) (by decide) (in_src (hin.kept (C := B) (Lo.of_out ob) (Nat.le_refl _)) hn) (by rw [icl_len, hn]) icl_one (by omega) 38
          have oa : Out 0 0 w1 (w1.alloc (.cells #[.int .i64 (-7), .int .i64 0] 61)) := (Out.refl 0 0 w1).alloc _
          obtain ⟨g2, p2, w2, hr2, q2, x2⟩ := mk_at (c := 1) (m := 1) (zs := icl [(-7, 0)]) Tryd.underlying38 info_in rfl (by decide) (by decide) (own_fx (S := fun _ => False) q1 (Fx.of_out oa) (fun _ _ q => q)) (Nat.le_trans o1.size oa.size) (Bl.new _ _ _) rfl icl_one (by omega) (by decide) (by decide) 38
          have hlo1 : ∀ k, (Value.slice a1 n p1).ownBlock = some k → G + 1 ≤ k := fun k hk => by have := (own_ge q1 hk).1; rw [size_alloc] at this; omega
          have o2 : Out 0 0 wr w2 := out_fx ((ob.trans o1).trans oa) x2 (fun k hk => by have := hlo1 k hk; omega)
          have HR1 := hid_mk hr1
          have HR2 := hid_mk hr2
          have bf2 : Bl w2 G #[.int .i64 P, .int .i64 L, .int .i64 C, .slice pj n cj] 40 := ((bf.kept o1 (.inr (Nat.zero_le _))).kept oa (.inr (Nat.zero_le _))).fx x2 (fun e => by have := hlo1 _ e; omega)
          have hsl := slice_to2 und_is elem_is info_in g2 (n + 1) p2 n (by have := own_cap q2; omega)
          have HSw := hid_mk (hS2.quiet o2)
          have HN2 : Hid (∀ k, (Value.slice (some ⟨g2, 0, none⟩) n p2).ownBlock = some k → G + 1 ≤ k) := hid_mk fun k hk => by have := (own_ge q2 (g := k) hk).1; rw [size_alloc] at this; omega
          have HT : Hid (CdL w2 (b + 3) [(-7, 0)] (.slice (some ⟨g2, 0, none⟩) n p2) cd) := hid_mk ⟨_, _, by rw [hn], by rw [hn, icl_app]; exact Go.Joins.ownsRow_le q2 (by have := hS2.size; rw [size_alloc]; omega)⟩
          have HC2 : Hid (∀ (i : Nat) a k, cs[i]? = some a → a.ownBlock = some k → k < G) := hid_mk fun i a k z1 z2 => hG ▸ hS2.2.2.2.2.1.lt z1 z2
          have d2 := HSw.out.1.1.cell (i := 2) rfl
          have d3 := o2.cell c3 (.inr (Nat.zero_le _))
          have e0 := bf2.cell (i := 0) rfl
          have e1 := bf2.cell (i := 1) rfl
          have e2 := bf2.cell (i := 2) rfl
          have e3 := bf2.cell (i := 3) rfl
          have e4 := bf2.frozen 3
          have HBF := hid_mk bf2
          have HO2 := hid_mk o2
          have HI : Hid (fs[j]? = some (P, L, C, cd) ∧ j < nf ∧ nf ≤ 300000 ∧ b + 3 ≤ G) := hid_mk ⟨hf, hgo, by omega, by have := hS2.size; omega⟩
          clear hS2 hB hnt hnf hts hfs hl1 hl2 hl3 hg hjm hgo hf hin hn hn3 ob bf hr1 hr2 q1 q2 o1 oa x2 hlo1 o2 bf2
          go_upto_region 13 with (at_builtin; first | refine app_st rfl _ _ _ _ rfl rfl rfl HR1.out ?_ | refine app_st rfl _ _ _ _ rfl rfl rfl HR2.out ?_)
          obtain ⟨W3, hW3⟩ : ∃ W3, w2.setCell ⟨G, 3, none⟩ (.slice (some ⟨g2, 0, none⟩) n p2) = W3 := ⟨_, rfl⟩
          have x3 : Fx (fun k => k = G) w2 W3 := by rw [← hW3]; exact (Fx.refl (fun k => k = G) _).set (p := ⟨G, 3, none⟩) (.inl rfl) _
          have b3 : Bl W3 G #[.int .i64 P, .int .i64 L, .int .i64 C, .slice (some ⟨g2, 0, none⟩) n p2] 40 := by rw [← hW3]; exact HBF.out.set 3 _
          have o3 : Out 0 0 wr W3 := out_fx HO2.out x3 (fun k hk => by omega)
          have h3 := HS2.out.quiet o3
          have HT3 := HT.out.fx x3 (fun k hk e => by have := HN2.out k hk; omega)
          have oX : Out 0 0 W3 (W3.alloc (.cells #[.int .i64 P, .int .i64 L, .int .i64 C, .slice (some ⟨g2, 0, none⟩) n p2] 40)) := (Out.refl 0 0 W3).alloc _
          obtain ⟨g4, cap4, w6, hr3, z1, z2⟩ := mk_at (m := 1) (c := 1) (zs := [.int .i64 P, .int .i64 L, .int .i64 C, .slice (some ⟨g2, 0, none⟩) n p2]) Tryd.underlying33 info_fnX rfl (by decide) (by decide) (h3.quiet oX).2.2.2.1 (h3.quiet oX).size (Bl.new _ _ _) rfl (by intro u hu; simp at hu; rcases hu with rfl | rfl | rfl | rfl <;> rfl) (by have := HI.out; omega) (by decide) (by decide) 33
          have hS6 := (h3.quiet oX).stepF HI.out.1 (HT3.fx (Q := fun _ => False) (Fx.of_out oX) (fun _ _ q => q)) (N := G) HC2.out (fun k hk => by have := HN2.out k hk; omega) z1 z2
          have B6 := ((h3.quiet oX).1.fx z2 (fun k hk e => by have := (own_ge (h3.quiet oX).2.2.2.1 e).1; omega)).2.2
          have u1 := h3.1.2.2.cell (i := 2) rfl
          have e0 := b3.cell (i := 0) rfl
          have e1 := b3.cell (i := 1) rfl
          have e2 := b3.cell (i := 2) rfl
          have e3 := b3.cell (i := 3) rfl
          have u2 := B6.cell (i := 2) rfl
          have u3 := B6.frozen 2
          have HR3 := hid_mk hr3
          have HS6 := hid_mk hS6
          rw [hW3]
          clear hW3 x3 b3 o3 h3 HT3 oX hr3 z1 z2 hS6 B6 d2 d3 HBF HT HSw HR1 HR2 hsl c0 c1 c2 c3 k2 HS2 HC2 HN2 HO2 HS e4 hG
          go_wp2_with (at_builtin; refine app_st rfl _ _ _ _ rfl rfl rfl HR3.out ?_)
          clear u1 e0 e1 e2 e3 u2 u3
          exact ⟨⟨j + 1, some ⟨g4, 0, none⟩, cap4, cs ++ [.slice (some ⟨g2, 0, none⟩) n p2], up_V HI.out.2.1 (by have := HI.out; omega), HI.out.2.1, HS6.out⟩, by rw [up_W HI.out.2.1 (by have := HI.out; omega)]; exact ms_N HI.out.2.1⟩
        · obtain rfl : nf = j := by omega
          obtain ⟨hB, hnt, hnf, hts, hfs, hl1, hl2, hl3⟩ := HH.out
          subst hnt hnf
          have l1 : decide ((fs.length : Int) < (fs.length : Int)) = false := by simp
          have d1 := hS2.1.2.2.cell (i := 1) rfl
          have d2 := hS2.1.1.cell (i := 1) rfl
          have HI : Hid (ts.length + fs.length ≤ 300000) := hid_mk hl1
          clear hS2 hB hts hfs hl1 hl2 hl3 hjm hgo
          go_wp2_with fail
          clear k2
          obtain ⟨V3, hV3⟩ : ∃ V3, wr.drew = V3 := ⟨_, rfl⟩
          refine wp_region_T (S := fun w' => w'.cell? ⟨b + 1 + 1, 1, none⟩ = some (.slice qa ts.length qk) ∧ w'.cell? ⟨b, 1, none⟩ = some (.slice ta ts.length tc)) (z := 11) (by kernel_rfl) ?hS15 (fun hHeld => ?rest15)
          case hS15 => exact ⟨d1, d2⟩
          refine tkT 0 ?_
          refine tkT 1 ?_
          refine tkT 6 ?_
          refine tkT 7 ?_
          refine tkT 8 ?_
          refine wpAnyT_one (i := 2) (by kernel_rfl) rfl (fun KK hK => ?_)
          simp only [xa, xb, xc]
          go_simp
          have o7 : Out 0 0 wr (V3.alloc (.cells #[.int .u8 109, .int .u8 97, .int .u8 114, .int .u8 107] 5)) := by rw [← hV3]; exact ((Out.refl 0 0 wr).drew).alloc _
          have hcv := Go.Joins.run_convert_bytes_const_at (P := Tryd.prog) V3 22 5 #[.int .u8 109, .int .u8 97, .int .u8 114, .int .u8 107] 4 4 V3.heap.size rfl Tryd.underlying22 Tryd.underlying5
          refine hK.out _ _ ?hS21 (fun hHeld2 => ?rest21)
          case hS21 => exact ⟨o7.cell d1 (.inr (Nat.zero_le _)), o7.cell d2 (.inr (Nat.zero_le _))⟩
          clear hK KK
          (try clear hHeld)
          have hHeld := hHeld2
          clear hHeld2
          (try simp only [Act.put, xa, xb, xc, xd, xe, xf])
          refine wpAnyT_one (i := 3) (by kernel_rfl) rfl (fun KK hK => ?_)
          simp only [xa, xb, xc]
          go_simp
          obtain ⟨X1, hX1⟩ : ∃ X1, V3.alloc (.cells #[.int .u8 109, .int .u8 97, .int .u8 114, .int .u8 107] 5 (4, 5)) = X1 := ⟨_, rfl⟩
          obtain ⟨t1, ht1⟩ : ∃ t1, V3.heap.size = t1 := ⟨_, rfl⟩
          rw [hX1, ht1]
          have o8 : Out 0 0 wr X1 := by rw [← hX1, ← hV3]; exact ((Out.refl 0 0 wr).drew).alloc _
          have HX1 : Hid (X1.heap[t1]? = some (.cells #[.int .u8 109, .int .u8 97, .int .u8 114, .int .u8 107] 5 (4, 5)) ∧ wr.heap.size = t1) := hid_mk ⟨by rw [← hX1, ← ht1]; exact heap_alloc_new _ _, by rw [← ht1, ← hV3]; rfl⟩
          clear hX1 ht1 hcv o7
          refine hK.out _ _ ?hS22 (fun hHeld2 => ?rest22)
          case hS22 => exact ⟨o8.cell d1 (.inr (Nat.zero_le _)), o8.cell d2 (.inr (Nat.zero_le _))⟩
          clear hK KK
          (try clear hHeld)
          have hHeld := hHeld2
          clear hHeld2
          (try simp only [Act.put, xa, xb, xc, xd, xe, xf])
          refine wpAnyT_one (i := 4) (by kernel_rfl) rfl (fun KK hK => ?_)
          simp only [xa, xb, xc]
          go_simp
          obtain ⟨X2, hX2⟩ : ∃ X2, X1.alloc (.cells #[.slice (some ⟨t1, 0, none⟩) 4 4] 22) = X2 := ⟨_, rfl⟩
          obtain ⟨t2, ht2⟩ : ∃ t2, X1.heap.size = t2 := ⟨_, rfl⟩
          rw [hX2, ht2]
          have o9 : Out 0 0 X1 X2 := by rw [← hX2]; exact ((Out.refl 0 0 X1)).alloc _
          have HX2 : Hid (Bl X2 t2 #[.slice (some ⟨t1, 0, none⟩) 4 4] 22) := hid_mk (by rw [← hX2, ← ht2]; exact Bl.new _ _ _)
          clear hX2 ht2
          refine hK.out _ _ ?hS23 (fun hHeld2 => ?rest23)
          case hS23 => exact ⟨o9.cell (o8.cell d1 (.inr (Nat.zero_le _))) (.inr (Nat.zero_le _)), o9.cell (o8.cell d2 (.inr (Nat.zero_le _))) (.inr (Nat.zero_le _))⟩
          clear hK KK
          (try clear hHeld)
          have hHeld := hHeld2
          clear hHeld2
          (try simp only [Act.put, xa, xb, xc, xd, xe, xf])
          refine wpAnyT_one (i := 5) (by kernel_rfl) rfl (fun KK hK => ?_)
          simp only [xa, xb, xc]
          obtain ⟨g4, cap4, w6, hr, z1, z2⟩ := mk_at (m := 1) (c := 1) (zs := [.slice (some ⟨t1, 0, none⟩) 4 4]) Tryd.underlying25 info_bs rfl (by decide) (by decide) (HS2.out.quiet (o8.trans o9)).2.1 (HS2.out.quiet (o8.trans o9)).size HX2.out rfl (by intro u hu; simp at hu; subst hu; rfl) (by have := HI.out; omega) (by decide) (by decide) 25
          have hsl := slice_to2 und_bss elem_bss info_bs g4 (ts.length + 1) cap4 ts.length (by have := own_cap z1; omega)
          refine app_sr X2 _ _ _ _ rfl _ _ rfl rfl hr ?_
          refine hK.out _ _ ?hS24 (fun hHeld2 => ?rest24)
          case hS24 => exact ⟨((HS2.out.quiet (o8.trans o9)).1.fx z2 (fun k hk e => by have := (own_ge (HS2.out.quiet (o8.trans o9)).2.1 e).1; omega)).2.2.cell (i := 1) rfl, ((HS2.out.quiet (o8.trans o9)).1.fx z2 (fun k hk e => by have := (own_ge (HS2.out.quiet (o8.trans o9)).2.1 e).1; omega)).1.cell (i := 1) rfl⟩
          clear hK KK
          (try clear hHeld)
          have hHeld := hHeld2
          clear hHeld2
          (try simp only [Act.put, xa, xb, xc, xd, xe, xf])
          refine tkT 9 ?_
          refine tkT 10 ?_
          refine wpAnyT_last (by kernel_rfl) rfl (fun KK hK => ?_)
          simp only [xa, xb, xc]
          have s9 := hHeld.1
          have z9 := ((HS2.out.quiet (o8.trans o9)).1.fx z2 (fun k hk e => by have := (own_ge (HS2.out.quiet (o8.trans o9)).2.1 e).1; omega)).2.2.frozen 1
          go_simp
          refine hK.out _ _ ?_
          clear hK KK
          (try simp only [Act.put, xa, xb, xc, xd, xe, xf])
          refine wpAnyT_done (by kernel_rfl) ?_ _
          have hmv : MkL X2 (b + 3) (.slice (some ⟨t1, 0, none⟩) 4 4) := ⟨t1, rfl, by have := HS2.out.size; have := HX1.out.2; omega, o9.heap HX1.out.1 (.inr (Nat.zero_le _))⟩
          have hM := (HS2.out.quiet (o8.trans o9)).mark hmv z1 z2
          obtain ⟨W6, hW6⟩ : ∃ W6, w6.setCell ⟨b + 1 + 1, 1, none⟩ (.slice (some ⟨g4, 0, none⟩) ts.length cap4) = W6 := ⟨_, rfl⟩
          rw [hW6] at hM ⊢
          have HM := hid_mk hM
          have d1 := hM.1.2.2.cell (i := 2) rfl
          have d2 := hM.1.1.cell (i := 2) rfl
          clear hmv hW6 hM hr z1 z2 o8 o9 HX1 HX2 hHeld hV3 HS2 HS hsl
          go_wp2_with fail
          obtain ⟨V4, hV4⟩ : ∃ V4, W6.drew = V4 := ⟨_, rfl⟩
          refine wp_region_T (S := fun w' => w'.cell? ⟨b + 1 + 1, 2, none⟩ = some (.slice ra fs.length rk) ∧ w'.cell? ⟨b, 2, none⟩ = some (.slice fa fs.length fc)) (z := 10) (by kernel_rfl) ?hS27 (fun hHeld => ?rest27)
          case hS27 => exact ⟨d1, d2⟩
          refine tkT 0 ?_
          refine tkT 1 ?_
          refine tkT 2 ?_
          refine tkT 5 ?_
          refine tkT 6 ?_
          refine tkT 7 ?_
          refine wpAnyT_one (i := 3) (by kernel_rfl) rfl (fun KK hK => ?_)
          simp only [xa, xb, xc]
          go_simp
          obtain ⟨X3, hX3⟩ : ∃ X3, V4.alloc (.cells #[.int .i64 (-7), .int .i64 0, .int .i64 0, .slice none 0 0] 40) = X3 := ⟨_, rfl⟩
          obtain ⟨t3, ht3⟩ : ∃ t3, V4.heap.size = t3 := ⟨_, rfl⟩
          rw [hX3, ht3]
          have o8 : Out 0 0 W6 X3 := by rw [← hX3, ← hV4]; exact ((Out.refl 0 0 W6).drew).alloc _
          have HX3 : Hid (Bl X3 t3 #[.int .i64 (-7), .int .i64 0, .int .i64 0, .slice none 0 0] 40) := hid_mk (by rw [← hX3, ← ht3]; exact Bl.new _ _ _)
          clear hX3 ht3
          refine hK.out _ _ ?hS34 (fun hHeld2 => ?rest34)
          case hS34 => exact ⟨o8.cell d1 (.inr (Nat.zero_le _)), o8.cell d2 (.inr (Nat.zero_le _))⟩
          clear hK KK
          (try clear hHeld)
          have hHeld := hHeld2
          clear hHeld2
          (try simp only [Act.put, xa, xb, xc, xd, xe, xf])
          refine wpAnyT_one (i := 4) (by kernel_rfl) rfl (fun KK hK => ?_)
          simp only [xa, xb, xc]
          obtain ⟨g5, cap5, w8, hr, z1, z2⟩ := mk_at (m := 1) (c := 1) (zs := [.int .i64 (-7), .int .i64 0, .int .i64 0, .slice none 0 0]) Tryd.underlying33 info_fnX rfl (by decide) (by decide) (HM.out.quiet o8).2.2.2.2.1 (HM.out.quiet o8).size HX3.out rfl (by intro u hu; simp at hu; rcases hu with rfl | rfl | rfl <;> rfl) (by have := HI.out; omega) (by decide) (by decide) 33
          have hsl := slice_to2 und_fss elem_fss info_fnX g5 (fs.length + 1) cap5 fs.length (by have := own_cap z1; omega)
          refine app_sr X3 _ _ _ _ rfl _ _ rfl rfl hr ?_
          refine hK.out _ _ ?hS35 (fun hHeld2 => ?rest35)
          case hS35 => exact ⟨((HM.out.quiet o8).1.fx z2 (fun k hk e => by have := (own_ge (HM.out.quiet o8).2.2.2.2.1 e).1; omega)).2.2.cell (i := 2) rfl, ((HM.out.quiet o8).1.fx z2 (fun k hk e => by have := (own_ge (HM.out.quiet o8).2.2.2.2.1 e).1; omega)).1.cell (i := 2) rfl⟩
          clear hK KK
          (try clear hHeld)
          have hHeld := hHeld2
          clear hHeld2
          (try simp only [Act.put, xa, xb, xc, xd, xe, xf])
          refine tkT 8 ?_
          refine tkT 9 ?_
          refine wpAnyT_last (by kernel_rfl) rfl (fun KK hK => ?_)
          simp only [xa, xb, xc]
          have s9 := hHeld.1
          have z9 := ((HM.out.quiet o8).1.fx z2 (fun k hk e => by have := (own_ge (HM.out.quiet o8).2.2.2.2.1 e).1; omega)).2.2.frozen 2
          go_simp
          refine hK.out _ _ ?_
          clear hK KK
          (try simp only [Act.put, xa, xb, xc, xd, xe, xf])
          refine wpAnyT_done (by kernel_rfl) ?_ _
          have hD := (HM.out.quiet o8).done z1 z2
          obtain ⟨W8, hW8⟩ : ∃ W8, w8.setCell ⟨b + 1 + 1, 2, none⟩ (.slice (some ⟨g5, 0, none⟩) fs.length cap5) = W8 := ⟨_, rfl⟩
          rw [hW8] at hD ⊢
          have HD := hid_mk hD
          have k0 := hD.1.2.2.cell (i := 0) rfl
          have k1 := hD.1.2.2.cell (i := 1) rfl
          have k2 := hD.1.2.2.cell (i := 2) rfl
          have m0 := hD.1.2.1.cell (i := 0) rfl
          have m1 := hD.1.2.1.cell (i := 1) rfl
          have m2 := hD.1.2.1.cell (i := 2) rfl
          have n0 := hD.1.2.1.frozen 0
          have n1 := hD.1.2.1.frozen 1
          have n2 := hD.1.2.1.frozen 2
          clear hD hW8 hr z1 z2 o8 HX3 hHeld hV4 HM hsl d1 d2
          go_wp2
          have hF := ((HD.out.1.2.1.set 0 (.int .i64 x)).set 1 (.slice (some ⟨g4, 0, none⟩) ts.length cap4)).set 2 (.slice (some ⟨g5, 0, none⟩) fs.length cap5)
          have hx : Fx (fun z => z = b + 1) W8 (((W8.setCell ⟨b + 1, 0, none⟩ (.int .i64 x)).setCell ⟨b + 1, 1, none⟩ (.slice (some ⟨g4, 0, none⟩) ts.length cap4)).setCell ⟨b + 1, 2, none⟩ (.slice (some ⟨g5, 0, none⟩) fs.length cap5)) := (((Fx.refl (fun z => z = b + 1) _).set (p := ⟨b + 1, 0, none⟩) (.inl rfl) _).set (p := ⟨b + 1, 1, none⟩) (.inl rfl) _).set (p := ⟨b + 1, 2, none⟩) (.inl rfl) _
          refine bodyPost_ret (v := .agg #[.int .i64 x, .slice (some ⟨g4, 0, none⟩) ts.length cap4, .slice (some ⟨g5, 0, none⟩) fs.length cap5]) (results_cell_row Tryd.results19 _ _ (b + 1) 35 _ (0, 0) _ rfl hF Tryd.underlying35 rfl (by kernel_rfl)) rfl ⟨out_fx HD.out.2.2.1 hx (fun k hk => by have := HD.out.2.2.2; omega), g4, cap4, g5, cap5, vs, .slice (some ⟨t1, 0, none⟩) 4 4, cs, rfl, ?_⟩
          exact (HD.out.2.1.fx hx (fun k z1 _ e => by omega)).low (by have := HD.out.2.2.2; omega)
end Go.Proofs.YtapjfokkcgdhhaaDoor
