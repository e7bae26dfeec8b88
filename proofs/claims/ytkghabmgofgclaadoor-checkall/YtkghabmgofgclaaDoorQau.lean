import Derived.Test.YtkghabmgofgclaaDoorQar
import Derived.Deep.Cut
namespace Go.Proofs.YtkghabmgofgclaaDoor
open Go.RowKit
set_option linter.unusedVariables false
set_option linter.unusedSimpArgs false

/-- a program that was lent -/
def LtAt (w : World) (lo : Nat) (qa : Option Addr) (qk : Nat) (vs : List Value) (ra : Option Addr) (rk : Nat) (cs : List Value) (ts : List (List Int)) (fs : List (Int × Int × Int × List (Int × Int))) : Prop :=
  w.ownsRow lo 33 1 (.slice qa ts.length qk) ts.length vs ∧ TL w lo [] vs ts ∧ w.ownsRow lo 41 4 (.slice ra fs.length rk) fs.length (fcl fs cs) ∧ CL w lo [(-7, 0), (-8, 0)] cs fs
def LtQ (w : World) (x : Int) (ts : List (List Int)) (fs : List (Int × Int × Int × List (Int × Int))) (e : Ending) (w' : World) : Prop := Out 0 0 w w' ∧ ∃ qa qk vs ra rk cs, e = .returned (.agg #[.int .i64 x, .slice qa ts.length qk, .slice ra fs.length rk]) ∧ LtAt w' w.heap.size qa qk vs ra rk cs ts fs
section
variable {w : World} {lo : Nat} {qa : Option Addr} {qk : Nat} {vs : List Value} {ra : Option Addr} {rk : Nat} {cs : List Value} {ts : List (List Int)} {fs : List (Int × Int × Int × List (Int × Int))}
theorem LtAt.low {l2 : Nat} (h : LtAt w lo qa qk vs ra rk cs ts fs) (hl : l2 ≤ lo) : LtAt w l2 qa qk vs ra rk cs ts fs := ⟨Go.Joins.ownsRow_le h.1 hl, h.2.1.low hl, Go.Joins.ownsRow_le h.2.2.1 hl, h.2.2.2.low hl⟩
theorem LtAt.fx {Q : Nat → Prop} {w2 : World} (h : LtAt w lo qa qk vs ra rk cs ts fs) (x : Fx Q w w2) (hQ : ∀ k, lo ≤ k → k < w.heap.size → ¬ Q k) : LtAt w2 lo qa qk vs ra rk cs ts fs :=
  ⟨own_fx h.1 x (fun k hk => hQ k (own_ge h.1 hk).1 (own_ge h.1 hk).2), h.2.1.fx x (fun j v t k z1 z2 z3 => hQ k ((h.2.1.2 j v t z1 z2).ob z3).1 ((h.2.1.2 j v t z1 z2).ob z3).2), own_fx h.2.2.1 x (fun k hk => hQ k (own_ge h.2.2.1 hk).1 (own_ge h.2.2.1 hk).2), h.2.2.2.fx x (fun j v t k z1 z2 z3 => hQ k ((h.2.2.2.2.1 j v t z1 z2).ob z3).1 ((h.2.2.2.2.1 j v t z1 z2).ob z3).2)⟩
theorem LtAt.quiet {w2 : World} (h : LtAt w lo qa qk vs ra rk cs ts fs) (o : Out 0 0 w w2) : LtAt w2 lo qa qk vs ra rk cs ts fs := h.fx (Q := fun _ => False) (Fx.of_out o) fun _ _ _ q => q
theorem LtAt.tx (h : LtAt w lo qa qk vs ra rk cs ts fs) : TxIn w w.heap.size qa ts := h.2.1.tx (zs := []) (by rw [List.append_nil]; exact h.1)
theorem LtAt.fn (h : LtAt w lo qa qk vs ra rk cs ts fs) : FnIn w w.heap.size ra fs := h.2.2.2.fn (zs := []) (by rw [List.append_nil]; exact h.2.2.1)
end
set_option maxRecDepth 100000 in
set_option maxHeartbeats 4000000 in
theorem lent19_any {w : World} {B : Nat} (hB : B ≤ w.heap.size) (x : Int) (ts : List (List Int)) (fs : List (Int × Int × Int × List (Int × Int))) (ta fa : Option Addr) (nt tc nf fc : Nat) (hnt : ts.length = nt) (hnf : fs.length = nf) (hts : TxIn w B ta ts) (hfs : FnIn w B fa fs) (hl1 : nt + nf ≤ 300000) (hl2 : ∀ f ∈ fs, f.2.2.2.length ≤ 300000) (hl3 : ∀ t ∈ ts, t.length ≤ 300000) :
    Calls Tryd.prog 32 #[.agg #[.int .i64 x, .slice ta nt tc, .slice fa nf fc]] w (LtQ w x ts fs) := by
  obtain ⟨b, hb⟩ : ∃ b, w.heap.size = b := ⟨_, rfl⟩
  have HL0 : Hid (LS w (((w.alloc (.cells #[.int .i64 x, .slice ta nt tc, .slice fa nf fc] 25)).alloc (.cells #[.int .i64 0, .slice none 0 0, .slice none 0 0] 25)).alloc (.cells #[.int .i64 x, .slice none 0 0, .slice none 0 0] 25)) b #[.int .i64 x, .slice ta nt tc, .slice fa nf fc] x [] [(-7, 0), (-8, 0)] ts fs 0 none 0 [] 0 none 0 []) := by
    refine hid_mk ⟨?_, World.ownsRow_nil _ _ _ 1, ⟨by simp, fun j v t q => by simp at q⟩, World.ownsRow_nil _ _ _ 4, ⟨by simp, (fun j v t q => by simp at q), fun i j a b k h q => by simp at q⟩, (((Out.refl 0 0 w).alloc _).alloc _).alloc _, hb⟩
    rw [← hb]
    refine ⟨((Bl.new _ _ _).alloc _).alloc _, ?_, ?_⟩
    · have := (Bl.new (w.alloc (.cells #[.int .i64 x, .slice ta nt tc, .slice fa nf fc] 25)) #[.int .i64 0, .slice none 0 0, .slice none 0 0] 25).alloc (.cells #[.int .i64 x, .slice none 0 0, .slice none 0 0] 25)
      rwa [size_alloc] at this
    · have := Bl.new ((w.alloc (.cells #[.int .i64 x, .slice ta nt tc, .slice fa nf fc] 25)).alloc (.cells #[.int .i64 0, .slice none 0 0, .slice none 0 0] 25)) #[.int .i64 x, .slice none 0 0, .slice none 0 0] 25
      rwa [size_alloc, size_alloc] at this
  have HH := hid_mk (And.intro hB (And.intro hnt (And.intro hnf (And.intro hts (And.intro hfs (And.intro hl1 (And.intro hl2 hl3)))))))
  clear hB hnt hnf hts hfs hl1 hl2 hl3
  have k0 := (Bl.new w #[.int .i64 x, .slice ta nt tc, .slice fa nf fc] 25).cell (i := 0) rfl
  rw [hb] at k0
  go_enter Tryd.func32, Tryd.ntmps32
  go_wp2
  obtain ⟨V, hV⟩ : ∃ V, ((w.alloc (.cells #[.int .i64 x, .slice ta nt tc, .slice fa nf fc] 25)).alloc (.cells #[.int .i64 0, .slice none 0 0, .slice none 0 0] 25)).alloc (.cells #[.int .i64 x, .slice none 0 0, .slice none 0 0] 25) = V := ⟨_, rfl⟩
  rw [hV] at HL0 ⊢
  clear hV hb k0
  go_loopw [4] (fun c wr => ∃ (i : Nat) (qa : Option Addr) (qk : Nat) (vs : List Value), c = .int .i64 i ∧ i ≤ nt ∧ LS w wr b #[.int .i64 x, .slice ta nt tc, .slice fa nf fc] x [] [(-7, 0), (-8, 0)] ts fs i qa qk vs 0 none 0 []) (fun c _ => nt - (intOf c).toNat)
  case atStart => exact ⟨0, none, 0, [], rfl, Nat.zero_le _, HL0.out⟩
  case round =>
    obtain ⟨i, qa, qk, vs, rfl, him, hS⟩ := hrel
    have HS := hid_mk hS
    have k1 := hS.1.1.cell (i := 1) rfl
    by_cases hgo : i < nt
    · obtain ⟨l1, l2⟩ := lt_d hgo
      obtain ⟨hB, hnt, hnf, hts, hfs, hl1, hl2, hl3⟩ := HH.out
      obtain ⟨t, ht⟩ : ∃ t, ts[i]? = some t := ⟨_, List.getElem?_eq_getElem (by omega)⟩
      obtain ⟨g, off, pj, cj, rfl, hg, c1, hby⟩ := tx_cellX (hts.kept (C := B) (Lo.of_out hS.2.2.2.2.2.1) (Nat.le_refl _)) ht
      obtain ⟨n, hn⟩ : ∃ n, t.length = n := ⟨_, rfl⟩
      have hn3 : n ≤ 300000 := by have := hl3 t (List.mem_of_getElem? ht); omega
      rw [hn] at c1
      have oD : Out 0 0 wr wr.drew := (Out.refl 0 0 wr).drew
      obtain ⟨a1, p1, w1, hr1, q1, o1⟩ := cp_at (w := wr.drew) (c := cj) Tryd.underlying33 info_u8 rfl (by decide) (by decide) (by_src (hby.kept (C := B) (Lo.of_out oD) (Nat.le_refl _)) hn) (by rw [bvs_len, hn, Nat.mul_one]) bvs_one (by omega) 33
      have o2 : Out 0 0 wr w1 := oD.trans o1
      have HR1 := hid_mk hr1
      have HT : Hid (TxL w1 (b + 3) [] (.slice a1 n p1) t) := hid_mk ⟨hby.1, _, _, by rw [hn], by rw [hn, List.append_nil]; exact Go.Joins.ownsRow_le q1 (Nat.le_trans hS.size oD.size)⟩
      have HSw := hid_mk (hS.quiet o2)
      have d1 := hS.1.2.2.cell (i := 1) rfl
      have d2 := hS.1.1.cell (i := 1) rfl
      have HC1 : Hid (w1.cell? ⟨b + 1 + 1, 1, none⟩ = some (.slice qa i qk) ∧ w1.cell? ⟨b, 1, none⟩ = some (.slice (some ⟨g, off, none⟩) nt tc) ∧ w1.cell? ⟨g, off + i, none⟩ = some (.slice pj n cj)) := hid_mk ⟨o2.cell d1 (.inr (Nat.zero_le _)), o2.cell d2 (.inr (Nat.zero_le _)), o2.cell c1 (.inr (Nat.zero_le _))⟩
      have HI : Hid (ts[i]? = some t ∧ i < nt ∧ nt ≤ 300000 ∧ g < b) := hid_mk ⟨ht, hgo, by omega, by have := hS.2.2.2.2.2.2; omega⟩
      have lmi : (i : Int) < (nt : Int) := by omega
      clear hS hB hnt hnf hts hfs hl1 hl2 hl3 ht hg hby hn hn3 hr1 q1 o1 o2 oD him hgo
      go_wp2_with fail
      refine wp_region_T (S := fun w' => w'.cell? ⟨b + 1 + 1, 1, none⟩ = some (.slice qa i qk) ∧ w'.cell? ⟨b, 1, none⟩ = some (.slice (some ⟨g, off, none⟩) nt tc) ∧ w'.cell? ⟨g, off + i, none⟩ = some (.slice pj n cj)) (z := 11) (by kernel_rfl) ?hS1 (fun hHeld => ?rest1)
      case hS1 => exact ⟨d1, d2, c1⟩
      refine tkT 0 ?_
      refine tkT 1 ?_
      refine tkT 2 ?_
      refine tkT 3 ?_
      refine tkT 4 ?_
      refine tkT 5 ?_
      refine tkT 6 ?_
      refine wpAnyT_one (i := 7) (by kernel_rfl) rfl (fun KK hK => ?_)
      simp only [xa, xb, xc]
      refine app_sr wr.drew _ _ _ _ rfl _ _ rfl rfl HR1.out ?_
      refine hK.out _ _ ?hS9 (fun hHeld2 => ?rest9)
      case hS9 => exact HC1.out
      clear hK KK
      (try clear hHeld)
      have hHeld := hHeld2
      clear hHeld2
      (try simp only [Act.put, xa, xb, xc, xd, xe, xf])
      refine wpAnyT_one (i := 8) (by kernel_rfl) rfl (fun KK hK => ?_)
      simp only [xa, xb, xc]
      go_simp
      obtain ⟨X1, hX1⟩ : ∃ X1, w1.alloc (.cells #[.slice a1 n p1] 33) = X1 := ⟨_, rfl⟩
      obtain ⟨t1, ht1⟩ : ∃ t1, w1.heap.size = t1 := ⟨_, rfl⟩
      rw [hX1, ht1]
      have o9 : Out 0 0 w1 X1 := by rw [← hX1]; exact ((Out.refl 0 0 w1)).alloc _
      have HX1 : Hid (Bl X1 t1 #[.slice a1 n p1] 33) := hid_mk (by rw [← hX1, ← ht1]; exact Bl.new _ _ _)
      clear hX1 ht1
      refine hK.out _ _ ?hS10 (fun hHeld2 => ?rest10)
      case hS10 => exact ⟨o9.cell HC1.out.1 (.inr (Nat.zero_le _)), o9.cell HC1.out.2.1 (.inr (Nat.zero_le _)), o9.cell HC1.out.2.2 (.inr (Nat.zero_le _))⟩
      clear hK KK
      (try clear hHeld)
      have hHeld := hHeld2
      clear hHeld2
      (try simp only [Act.put, xa, xb, xc, xd, xe, xf])
      refine wpAnyT_one (i := 9) (by kernel_rfl) rfl (fun KK hK => ?_)
      simp only [xa, xb, xc]
      obtain ⟨g4, cap4, w6, hr, z1, z2⟩ := mk_at (m := 1) (c := 1) (zs := [.slice a1 n p1]) Tryd.underlying22 info_bs rfl (by decide) (by decide) (HSw.out.quiet o9).2.1 (by have := (HSw.out.quiet o9).size; exact this) HX1.out rfl (by intro u hu; simp at hu; subst hu; rfl) (by have := HI.out; omega) (by decide) (by decide) 22
      refine app_sr X1 _ _ _ _ rfl _ _ rfl rfl hr ?_
      refine hK.out _ _ ?hS11 (fun hHeld2 => ?rest11)
      case hS11 => exact ⟨((HSw.out.quiet o9).1.fx z2 (fun k hk e => by have := (own_ge (HSw.out.quiet o9).2.1 e).1; omega)).2.2.cell (i := 1) rfl, ((HSw.out.quiet o9).1.fx z2 (fun k hk e => by have := (own_ge (HSw.out.quiet o9).2.1 e).1; omega)).1.cell (i := 1) rfl, z2.cell (o9.cell HC1.out.2.2 (.inr (Nat.zero_le _))) (fun e => by have := (own_ge (HSw.out.quiet o9).2.1 e).1; have := HI.out; omega)⟩
      clear hK KK
      (try clear hHeld)
      have hHeld := hHeld2
      clear hHeld2
      (try simp only [Act.put, xa, xb, xc, xd, xe, xf])
      refine tkT 10 ?_
      refine wpAnyT_last (by kernel_rfl) rfl (fun KK hK => ?_)
      simp only [xa, xb, xc]
      have s9 := hHeld.1
      have z9 := ((HSw.out.quiet o9).1.fx z2 (fun k hk e => by have := (own_ge (HSw.out.quiet o9).2.1 e).1; omega)).2.2.frozen 1
      go_simp
      refine hK.out _ _ ?_
      clear hK KK
      (try simp only [Act.put, xa, xb, xc, xd, xe, xf])
      refine wpAnyT_done (by kernel_rfl) ?_ _
      have hS6 := (HSw.out.quiet o9).stepT HI.out.1 (HT.out.fx (Q := fun _ => False) (Fx.of_out o9) (fun _ _ q => q)) z1 z2
      obtain ⟨W6, hW6⟩ : ∃ W6, w6.setCell ⟨b + 1 + 1, 1, none⟩ (.slice (some ⟨g4, 0, none⟩) (i + 1) cap4) = W6 := ⟨_, rfl⟩
      rw [hW6] at hS6 ⊢
      have HS6 := hid_mk hS6
      clear hS6 hW6 hr z1 z2 o9 HX1 hHeld d1 d2 HT HSw HR1 k1 c1 HS HC1
      go_wp2
      exact ⟨⟨i + 1, some ⟨g4, 0, none⟩, cap4, vs ++ [.slice a1 n p1], up_V HI.out.2.1 (by have := HI.out; omega), HI.out.2.1, HS6.out⟩, by rw [up_W HI.out.2.1 (by have := HI.out; omega)]; exact ms_N HI.out.2.1⟩
    · obtain rfl : nt = i := by omega
      have l1 : decide ((nt : Int) < (nt : Int)) = false := by simp
      clear hgo hS him HL0
      go_wp2
      clear k1
      go_loopw [5] (fun c wr => ∃ (j : Nat) (ra : Option Addr) (rk : Nat) (cs : List Value), c = .int .i64 j ∧ j ≤ nf ∧ LS w wr b #[.int .i64 x, .slice ta nt tc, .slice fa nf fc] x [] [(-7, 0), (-8, 0)] ts fs nt qa qk vs j ra rk cs) (fun c _ => nf - (intOf c).toNat)
      case atStart => exact ⟨0, none, 0, [], rfl, Nat.zero_le _, HS.out⟩
      case round =>
        obtain ⟨j, ra, rk, cs, rfl, hjm, hS2⟩ := hrel
        have HS2 := hid_mk hS2
        have k2 := hS2.1.1.cell (i := 2) rfl
        by_cases hgo : j < nf
        · obtain ⟨l1, l2⟩ := lt_d hgo
          obtain ⟨hB, hnt, hnf, hts, hfs, hl1, hl2, hl3⟩ := HH.out
          obtain ⟨⟨P, L, C, cd⟩, hf⟩ : ∃ f, fs[j]? = some f := ⟨_, List.getElem?_eq_getElem (by omega)⟩
          obtain ⟨g, off, pj, cj, rfl, hg, c0, c1, c2, c3, hin⟩ := fn_cell (hfs.kept (C := B) (Lo.of_out hS2.2.2.2.2.2.1) (Nat.le_refl _)) hf
          simp only [] at c0 c1 c2 c3 hin
          obtain ⟨n, hn⟩ : ∃ n, cd.length = n := ⟨_, rfl⟩
          have hn3 : n ≤ 300000 := by have := hl2 _ (List.mem_of_getElem? hf); simp only [] at this; omega
          rw [hn] at c3
          have lmi : (j : Int) < (nf : Int) := by omega
          obtain ⟨G, hG⟩ : ∃ G, wr.heap.size = G := ⟨_, rfl⟩
          have ob : Out 0 0 wr (wr.alloc (.cells #[.int .i64 P, .int .i64 L, .int .i64 C, .slice pj n cj] 41)) := (Out.refl 0 0 wr).alloc _
          have bf := Bl.new wr #[.int .i64 P, .int .i64 L, .int .i64 C, .slice pj n cj] 41
          rw [hG] at bf
          obtain ⟨a1, p1, w1, hr1, q1, o1⟩ := cp_at (w := wr.alloc (.cells #[.int .i64 P, .int .i64 L, .int .i64 C, .slice pj n cj] 41)) (c := cj) Tryd.underlying39 info_in rfl (by decide) (by decide) (in_src (hin.kept (C := B) (Lo.of_out ob) (Nat.le_refl _)) hn) (by rw [icl_len, hn]) icl_one (by omega) 39
          have oa : Out 0 0 w1 (w1.alloc (.cells #[.int .i64 (-7), .int .i64 0, .int .i64 (-8), .int .i64 0] 61)) := (Out.refl 0 0 w1).alloc _
          obtain ⟨g2, p2, w2, hr2, q2, x2⟩ := mk_at (c := 2) (m := 2) (zs := icl [(-7, 0), (-8, 0)]) Tryd.underlying39 info_in rfl (by decide) (by decide) (own_fx (S := fun _ => False) q1 (Fx.of_out oa) (fun _ _ q => q)) (Nat.le_trans o1.size oa.size) (Bl.new _ _ _) rfl icl_one (by omega) (by decide) (by decide) 39
          have hlo1 : ∀ k, (Value.slice a1 n p1).ownBlock = some k → G + 1 ≤ k := fun k hk => by have := (own_ge q1 hk).1; rw [size_alloc] at this; omega
          have o2 : Out 0 0 wr w2 := out_fx ((ob.trans o1).trans oa) x2 (fun k hk => by have := hlo1 k hk; omega)
          have HR1 := hid_mk hr1
          have HR2 := hid_mk hr2
          have bf2 : Bl w2 G #[.int .i64 P, .int .i64 L, .int .i64 C, .slice pj n cj] 41 := ((bf.kept o1 (.inr (Nat.zero_le _))).kept oa (.inr (Nat.zero_le _))).fx x2 (fun e => by have := hlo1 _ e; omega)
          have hsl := slice_to2 und_is elem_is info_in g2 (n + 2) p2 n (by have := own_cap q2; omega)
          have HSw := hid_mk (hS2.quiet o2)
          have HN2 : Hid (∀ k, (Value.slice (some ⟨g2, 0, none⟩) n p2).ownBlock = some k → G + 1 ≤ k) := hid_mk fun k hk => by have := (own_ge q2 (g := k) hk).1; rw [size_alloc] at this; omega
          have HT : Hid (CdL w2 (b + 3) [(-7, 0), (-8, 0)] (.slice (some ⟨g2, 0, none⟩) n p2) cd) := hid_mk ⟨_, _, by rw [hn], by rw [hn, icl_app]; exact Go.Joins.ownsRow_le q2 (by have := hS2.size; rw [size_alloc]; omega)⟩
          have HC2 : Hid (∀ (i : Nat) a k, cs[i]? = some a → a.ownBlock = some k → k < G) := hid_mk fun i a k z1 z2 => hG ▸ hS2.2.2.2.2.1.lt z1 z2
          have d2 := HSw.out.1.1.cell (i := 2) rfl
          have d3 := o2.cell c3 (.inr (Nat.zero_le _))
          have e0 := bf2.cell (i := 0) rfl
          have e1 := bf2.cell (i := 1) rfl
          have e2 := bf2.cell (i := 2) rfl
          have e3 := bf2.cell (i := 3) rfl
          have e4 := bf2.frozen 3
          have HBF := hid_mk bf2
          have HO2 := hid_mk o2
          have HI : Hid (fs[j]? = some (P, L, C, cd) ∧ j < nf ∧ nf ≤ 300000 ∧ b + 3 ≤ G) := hid_mk ⟨hf, hgo, by omega, by have := hS2.size; omega⟩
          clear hS2 hB hnt hnf hts hfs hl1 hl2 hl3 hg hjm hgo hf hin hn hn3 ob bf hr1 hr2 q1 q2 o1 oa x2 hlo1 o2 bf2
          go_upto_region 12 with (at_builtin; first | refine app_st rfl _ _ _ _ rfl rfl rfl HR1.out ?_ | refine app_st rfl _ _ _ _ rfl rfl rfl HR2.out ?_)
          obtain ⟨W3, hW3⟩ : ∃ W3, w2.setCell ⟨G, 3, none⟩ (.slice (some ⟨g2, 0, none⟩) n p2) = W3 := ⟨_, rfl⟩
          have x3 : Fx (fun k => k = G) w2 W3 := by rw [← hW3]; exact (Fx.refl (fun k => k = G) _).set (p := ⟨G, 3, none⟩) (.inl rfl) _
          have b3 : Bl W3 G #[.int .i64 P, .int .i64 L, .int .i64 C, .slice (some ⟨g2, 0, none⟩) n p2] 41 := by rw [← hW3]; exact HBF.out.set 3 _
          have o3 : Out 0 0 wr W3 := out_fx HO2.out x3 (fun k hk => by omega)
          have h3 := HS2.out.quiet o3
          have HT3 := HT.out.fx x3 (fun k hk e => by have := HN2.out k hk; omega)
          have oX : Out 0 0 W3 (W3.alloc (.cells #[.int .i64 P, .int .i64 L, .int .i64 C, .slice (some ⟨g2, 0, none⟩) n p2] 41)) := (Out.refl 0 0 W3).alloc _
          obtain ⟨g4, cap4, w6, hr3, z1, z2⟩ := mk_at (m := 1) (c := 1) (zs := [.int .i64 P, .int .i64 L, .int .i64 C, .slice (some ⟨g2, 0, none⟩) n p2]) Tryd.underlying23 info_fnX rfl (by decide) (by decide) (h3.quiet oX).2.2.2.1 (h3.quiet oX).size (Bl.new _ _ _) rfl (by intro u hu; simp at hu; rcases hu with rfl | rfl | rfl | rfl <;> rfl) (by have := HI.out; omega) (by decide) (by decide) 23
          have hS6 := (h3.quiet oX).stepF HI.out.1 (HT3.fx (Q := fun _ => False) (Fx.of_out oX) (fun _ _ q => q)) (N := G) HC2.out (fun k hk => by have := HN2.out k hk; omega) z1 z2
          have B6 := ((h3.quiet oX).1.fx z2 (fun k hk e => by have := (own_ge (h3.quiet oX).2.2.2.1 e).1; omega)).2.2
          have u1 := h3.1.2.2.cell (i := 2) rfl
          have e0 := b3.cell (i := 0) rfl
          have e1 := b3.cell (i := 1) rfl
          have e2 := b3.cell (i := 2) rfl
          have e3 := b3.cell (i := 3) rfl
          have u2 := B6.cell (i := 2) rfl
          have u3 := B6.frozen 2
          have HR3 := hid_mk hr3
          have HS6 := hid_mk hS6
          rw [hW3]
          clear hW3 x3 b3 o3 h3 HT3 oX hr3 z1 z2 hS6 B6 d2 d3 HBF HT HSw HR1 HR2 hsl c0 c1 c2 c3 k2 HS2 HC2 HN2 HO2 HS e4 hG
          go_wp2_with (at_builtin; refine app_st rfl _ _ _ _ rfl rfl rfl HR3.out ?_)
          clear u1 e0 e1 e2 e3 u2 u3
          exact ⟨⟨j + 1, some ⟨g4, 0, none⟩, cap4, cs ++ [.slice (some ⟨g2, 0, none⟩) n p2], up_V HI.out.2.1 (by have := HI.out; omega), HI.out.2.1, HS6.out⟩, by rw [up_W HI.out.2.1 (by have := HI.out; omega)]; exact ms_N HI.out.2.1⟩
        · obtain rfl : nf = j := by omega
          obtain ⟨hB, hnt, hnf, hts, hfs, hl1, hl2, hl3⟩ := HH.out
          subst hnt hnf
          have l1 : decide ((fs.length : Int) < (fs.length : Int)) = false := by simp
          have k0 := hS2.1.2.2.cell (i := 0) rfl
          have k1 := hS2.1.2.2.cell (i := 1) rfl
          have k3 := hS2.1.2.2.cell (i := 2) rfl
          have m0 := hS2.1.2.1.cell (i := 0) rfl
          have m1 := hS2.1.2.1.cell (i := 1) rfl
          have m2 := hS2.1.2.1.cell (i := 2) rfl
          have n0 := hS2.1.2.1.frozen 0
          have n1 := hS2.1.2.1.frozen 1
          have n2 := hS2.1.2.1.frozen 2
          clear hS2 hB hts hfs hl1 hl2 hl3 hjm hgo
          go_wp2
          have hF := ((HS2.out.1.2.1.set 0 (.int .i64 x)).set 1 (.slice qa ts.length qk)).set 2 (.slice ra fs.length rk)
          have hx : Fx (fun z => z = b + 1) wr (((wr.setCell ⟨b + 1, 0, none⟩ (.int .i64 x)).setCell ⟨b + 1, 1, none⟩ (.slice qa ts.length qk)).setCell ⟨b + 1, 2, none⟩ (.slice ra fs.length rk)) := (((Fx.refl (fun z => z = b + 1) _).set (p := ⟨b + 1, 0, none⟩) (.inl rfl) _).set (p := ⟨b + 1, 1, none⟩) (.inl rfl) _).set (p := ⟨b + 1, 2, none⟩) (.inl rfl) _
          obtain ⟨h1, h2, h3, h4, h5, h6, h7⟩ := HS2.out
          rw [List.take_length] at h3 h4 h5
          have hL : LtAt wr (b + 3) qa qk vs ra rk cs ts fs := ⟨h2, h3, h4, h5⟩
          refine bodyPost_ret (v := .agg #[.int .i64 x, .slice qa ts.length qk, .slice ra fs.length rk]) (results_cell_row Tryd.results32 _ _ (b + 1) 25 _ (0, 0) _ rfl hF Tryd.underlying25 rfl (by kernel_rfl)) rfl ⟨out_fx h6 hx (fun k hk => by omega), qa, qk, vs, ra, rk, cs, rfl, ?_⟩
          exact (hL.fx hx (fun k z1 _ e => by omega)).low (by omega)
end Go.Proofs.YtkghabmgofgclaaDoor
