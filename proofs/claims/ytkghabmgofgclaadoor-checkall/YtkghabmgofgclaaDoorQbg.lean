import Derived.Test.YtkghabmgofgclaaDoorQat
import Derived.Test.YtkghabmgofgclaaDoorQbc
namespace Go.Proofs.YtkghabmgofgclaaDoor
open Go.RowKit
set_option linter.unusedVariables false
set_option linter.unusedSimpArgs false

theorem sub_1Y {N e : Nat} (h : e + 1 = N) (hN : N ≤ 1000000) : wrap64 ((N : Int) - 1) = (e : Int) := by unfold wrap64; omega
theorem gw_all {g m qq ss GG NN ee : Nat} (h1 : 1 ≤ g) (h2 : g ≤ 17) (hm : m ≤ 100000) (hqq : g / 17 = qq) (hss : qq * 80 = ss) (hGG : g + ss = GG) (hNN : m + GG = NN) (hee : m + GG - 1 = ee) : wrap64 ((NN : Int) - 1) = (ee : Int) ∧ (ee : Int) < (NN : Int) ∧ Int.tdiv (g : Int) 17 = (qq : Int) ∧ wrap64 (qq : Int) = (qq : Int) ∧ wrap64 ((qq : Int) * 80) = (ss : Int) ∧ wrap64 ((g : Int) + (ss : Int)) = (GG : Int) ∧ wrap64 (GG : Int) = (GG : Int) := by
  have b1 : qq ≤ 1 := by omega
  have b2 : ss ≤ 80 := by omega
  have b3 : GG ≤ 97 := by omega
  refine ⟨sub_1Y (by omega) (by omega), by omega, by rw [gw_q, hqq], ?_, gw_m (by omega) hss, gw_a (by omega) (by omega) hGG, ?_⟩
  · unfold wrap64; omega
  · unfold wrap64; omega
theorem wr_q {q : Nat} (h : q ≤ 100000) : wrap64 (q : Int) = (q : Int) := by unfold wrap64; omega
theorem ms_17Y {k : Nat} (h : k ≤ 17) : 18 - (intOf (.int .i64 ((k + 1 : Nat) : Int))).toNat < 18 - (intOf (.int .i64 (k : Int))).toNat := by simp [intOf]; omega
theorem fm_len {As : List An} {w : World} {lo : Nat} (h : ∀ A ∈ As, A.at w lo) : (As.flatMap An.vs).length ≤ As.length * 65 := by
  induction As with
  | nil => simp
  | cons A As ih =>
    rw [List.flatMap_cons, List.length_append, List.length_cons]
    have h1 := ih (fun B hB => h B (List.mem_cons_of_mem _ hB))
    have hA := h A (List.mem_cons_self)
    have h2 : A.vs.length = A.m + 1 := by
      unfold An.vs
      rw [List.length_cons, dvs_len hA.1.2.2.1, hA.2.2.1]
    have := hA.2.2.2.2.1
    omega
set_option maxRecDepth 100000 in
set_option maxHeartbeats 4000000 in
theorem apart19_any {w : World} {lo bk rk wk : Nat} {ra wa : Option Addr} {As Bs : List An} (hlo : lo ≤ w.heap.size) (hn : As.length ≤ 100) (hl : As.length = Bs.length) (h : KC w lo bk ra rk wa wk As Bs) (hAB : ∀ (j : Nat) A B, As[j]? = some A → Bs[j]? = some B → A.S = B.S ∧ A.Ds = B.Ds) :
    Calls Tryd.prog 16 #[.pointer (some ⟨bk, 0, none⟩)] w fun e w' => e = .returned (.bool true) ∧ Fx (fun k => lo ≤ k) w w' := by
  have HH := hid_mk (And.intro hlo (And.intro hn (And.intro hl hAB)))
  have HK := hid_mk h
  obtain ⟨n, hnn⟩ : ∃ n, As.length = n := ⟨_, rfl⟩
  have HN := hid_mk hnn
  clear h hlo hn hl hAB hnn
  go_enter Tryd.func16, Tryd.ntmps16
  go_wp2
  go_loopw [3, 4] (fun c3 c wr => ∃ (i : Nat) (la : Option Addr) (N lk : Nat), c = .int .i64 i ∧ i ≤ n ∧ c3 = .slice la N lk ∧ N ≤ i * 65 ∧ wr.ownsRow w.heap.size 68 1 (.slice la N lk) N ((As.take i).flatMap An.vs) ∧ KC wr lo bk ra rk wa wk As Bs ∧ Out 0 0 w wr) (fun _ c _ => n - (intOf c).toNat)
  case atStart => exact ⟨0, none, 0, 0, rfl, Nat.zero_le _, rfl, by omega, World.ownsRow_nil _ _ _ 1, HK.out, Out.refl _ _ _⟩
  case round =>
    obtain ⟨i, la, N, lk, rfl, him, rfl, hN65, hown, hK, hO⟩ := hrel
    have k0 := hK.1.cell (i := 0) rfl
    rw [HN.out] at k0
    by_cases hgo : i < n
    · obtain ⟨l1, l2⟩ := lt_d hgo
      obtain ⟨hlo, hn, hl, hAB⟩ := HH.out
      have k1 := hK.1.cell (i := 1) rfl
      rw [← hl, HN.out] at k1
      obtain ⟨A, hA⟩ : ∃ A, As[i]? = some A := ⟨_, List.getElem?_eq_getElem (by have := HN.out; omega)⟩
      obtain ⟨B, hB⟩ : ∃ B, Bs[i]? = some B := ⟨_, List.getElem?_eq_getElem (by have := HN.out; omega)⟩
      obtain ⟨gr, cur, rfl, -, hcl, -⟩ := own_cellsX hK.2.1 (by have := HN.out; omega)
      obtain ⟨gw, cur2, rfl, -, hcl2, -⟩ := own_cellsX hK.2.2.1 (by have := HN.out; omega)
      have c1 := hcl _ _ (acl_at hA).1
      have c2 := hcl _ _ (acl_at hA).2
      have c3 := hcl2 _ _ (acl_at hB).1
      have c4 := hcl2 _ _ (acl_at hB).2
      have hAa := hK.2.2.2.1 A (List.mem_of_getElem? hA)
      have hBa := hK.2.2.2.2.1 B (List.mem_of_getElem? hB)
      have oD : Out 0 0 wr wr.drew := (Out.refl 0 0 wr).drew
      have HSa := hid_mk (same_an (hAa.quiet oD) (hBa.quiet oD) (hAB i A B hA hB).1 (hAB i A B hA hB).2)
      unfold An.s at c1 c3
      unfold An.d at c2 c4
      unfold An.s An.d at HSa
      have lmi : (i : Int) < (n : Int) := by omega
      have HS : Hid (i < n ∧ As[i]? = some A ∧ N ≤ i * 65 ∧ wr.ownsRow w.heap.size 68 1 (.slice la N lk) N ((As.take i).flatMap An.vs) ∧ KC wr lo bk (some ⟨gr, 0, none⟩) rk (some ⟨gw, 0, none⟩) wk As Bs ∧ Out 0 0 w wr ∧ n ≤ 100) := hid_mk ⟨hgo, hA, hN65, hown, hK, hO, by have := HN.out; omega⟩
      clear hlo hn hl hAB hA hB hcl hcl2 hAa hBa oD hN65 hown hK hO hgo him
      go_wp2_with fail
      obtain ⟨V3, hV3⟩ : ∃ V3, wr.drew = V3 := ⟨_, rfl⟩
      rw [hV3] at HSa
      refine wp_region_held_drew (S := fun w' => (w'.cell? ⟨bk, 0, none⟩ = some (.slice (some ⟨gr, 0, none⟩) n rk) ∧ w'.cell? ⟨bk, 1, none⟩ = some (.slice (some ⟨gw, 0, none⟩) n wk)) ∧ (w'.cell? ⟨gr, i * 2, none⟩ = some (.slice A.sa A.n A.sc) ∧ w'.cell? ⟨gr, i * 2 + 1, none⟩ = some (.slice A.da A.m A.dc)) ∧ w'.cell? ⟨gw, i * 2, none⟩ = some (.slice B.sa B.n B.sc) ∧ w'.cell? ⟨gw, i * 2 + 1, none⟩ = some (.slice B.da B.m B.dc)) (by kernel_rfl) ?hS1 (fun hHeld => ?rest1)
      case hS1 => exact ⟨⟨k0, k1⟩, ⟨c1, c2⟩, c3, c4⟩
      refine tk 0 ?_
      refine tk 1 ?_
      refine tk 2 ?_
      refine tk 3 ?_
      refine tk 4 ?_
      refine tk 5 ?_
      refine tk 6 ?_
      refine tk 7 ?_
      refine tk 8 ?_
      refine tk 9 ?_
      refine tk 10 ?_
      refine tk 11 ?_
      refine tk 12 ?_
      refine tk 13 ?_
      refine wpAnyH_ready (rs := [14]) (by kernel_rfl) (by simp) ?_
      refine AllReadyH.cons rfl (fun KK hK => ?_) AllReadyH.nil
      simp only [xa, xb, xc]
      go_simp
      refine HSa.out.mono ?_
      rintro e w4 ⟨rfl, o4⟩
      have o9 : Out 0 0 wr w4 := (by rw [← hV3] at o4; exact ((Out.refl 0 0 wr).drew).trans o4)
      refine hK.out _ _ ?hS16 (fun hHeld2 => ?rest16)
      case hS16 => exact ⟨⟨o9.cell k0 (.inr (Nat.zero_le _)), o9.cell k1 (.inr (Nat.zero_le _))⟩, ⟨o9.cell c1 (.inr (Nat.zero_le _)), o9.cell c2 (.inr (Nat.zero_le _))⟩, o9.cell c3 (.inr (Nat.zero_le _)), o9.cell c4 (.inr (Nat.zero_le _))⟩
      clear hK KK
      (try clear hHeld)
      have hHeld := hHeld2
      clear hHeld2
      (try simp only [Act.put, xa, xb, xc, xd, xe, xf])
      refine tk 15 ?_
      refine wpAnyH_done (by kernel_rfl) ?_ _
      obtain ⟨hgo, hA, hN65, hown, hK, hO, hn1⟩ := HS.out
      replace k0 := o9.cell k0 (.inr (Nat.zero_le _))
      replace c1 := o9.cell c1 (.inr (Nat.zero_le _))
      replace c2 := o9.cell c2 (.inr (Nat.zero_le _))
      have ow4 := hO.trans o9
      have oA : Out 0 0 w4 (w4.alloc (.cells #[.slice A.sa A.n A.sc] 68)) := (Out.refl 0 0 w4).alloc _
      obtain ⟨g5, p5, w5, hr5, q1, q2⟩ := mk_at (w := w4.alloc (.cells #[.slice A.sa A.n A.sc] 68)) (m := 1) (c := 1) (zs := [.slice A.sa A.n A.sc]) Tryd.underlying69 info_ints rfl (by decide) (by decide) (own_fx (S := fun _ => False) hown (Fx.of_out (o9.trans oA)) (fun _ _ q => q)) (ow4.trans oA).size (Bl.new _ _ _) rfl (by intro u hu; simp at hu; subst hu; rfl) (by omega) (by decide) (by decide) 69
      have oW5 : Out 0 0 w w5 := out_fx (ow4.trans oA) q2 (fun k hk => (own_ge hown hk).1)
      have hK4 := (hK.quiet (o9.trans oA))
      have off5 : ∀ k, (Value.slice la N lk).ownBlock = some k → w.heap.size ≤ k := fun k hk => (own_ge hown hk).1
      have hKm := HK.out
      have hK5 : KC w5 lo bk (some ⟨gr, 0, none⟩) rk (some ⟨gw, 0, none⟩) wk As Bs := KC.far hKm oW5
      obtain ⟨A2, p6, w6, hr6, z1, z2, -⟩ := app_at (w := w5) (sa := A.da) (m := A.m) (c := A.dc) (ys := dvs A.dgs A.Ds) Tryd.underlying69 info_ints rfl (by decide) (by decide) q1 oW5.size (dep_src (hK5.2.2.2.1 A (List.mem_of_getElem? hA))) (by rw [dvs_len (hK5.2.2.2.1 A (List.mem_of_getElem? hA)).1.2.2.1, (hK5.2.2.2.1 A (List.mem_of_getElem? hA)).2.2.1, Nat.mul_one]) (by intro u hu; obtain ⟨dg, D, -, -, rfl⟩ := dvs_mem hu; rfl) (by omega) (by have := (hK5.2.2.2.1 A (List.mem_of_getElem? hA)).2.2.2.2.1; omega) 69
      have oW6 : Out 0 0 w w6 := out_fx oW5 z2 (fun k hk => (own_ge q1 hk).1)
      have hK6 : KC w6 lo bk (some ⟨gr, 0, none⟩) rk (some ⟨gw, 0, none⟩) wk As Bs := KC.far hKm oW6
      have c5 := hK5.1.cell (i := 0) rfl
      rw [HN.out] at c5
      have c6 : w5.cell? ⟨gr, i * 2 + 1, none⟩ = some (.slice A.da A.m A.dc) := own_at2 hK5.2.1 (acl_at hA).2
      have HR5 := hid_mk hr5
      have HR6 := hid_mk hr6
      have HE : Hid (i < n ∧ n ≤ 100 ∧ N + 1 + A.m ≤ (i + 1) * 65 ∧ w6.ownsRow w.heap.size 68 1 (.slice A2 (N + 1 + A.m) p6) (N + 1 + A.m) ((As.take (i + 1)).flatMap An.vs) ∧ KC w6 lo bk (some ⟨gr, 0, none⟩) rk (some ⟨gw, 0, none⟩) wk As Bs ∧ Out 0 0 w w6) := hid_mk ⟨hgo, hn1, by have := (hK5.2.2.2.1 A (List.mem_of_getElem? hA)).2.2.2.2.1; omega, by
        rw [take_1 hA, List.flatMap_append]
        simp only [List.flatMap_cons, List.flatMap_nil, List.append_nil]
        unfold An.vs An.s
        rw [← app_cons_X] at z1
        exact z1, hK6, oW6⟩
      clear hgo hA hN65 hown hK hO hn1 ow4 oA hr5 q1 q2 oW5 hK4 off5 hKm hK5 hr6 z1 z2 oW6 hK6 o4 o9 hHeld hV3 HSa k1 c3 c4 HS
      go_upto_region 8 with (at_builtin; refine app_st rfl _ _ _ _ rfl rfl rfl HR5.out ?_)
      clear c1 c2 k0
      go_wp2_with (at_builtin; refine app_st rfl _ _ _ _ rfl rfl rfl HR6.out ?_)
      exact ⟨⟨i + 1, _, _, _, up_V HE.out.1 (by have := HE.out; omega), HE.out.1, rfl, HE.out.2.2.1, HE.out.2.2.2⟩, by rw [up_W HE.out.1 (by have := HE.out; omega)]; exact ms_N HE.out.1⟩
    · obtain rfl : n = i := by omega
      have l1 : decide ((n : Int) < (n : Int)) = false := by simp
      have hall := hK.2.2.2.1
      have hpw : As.Pairwise (fun A B => ∀ k, A.bl k → ¬ B.bl k) := List.pairwise_iff_getElem.2 fun i j hi hj hij k z1 => hK.2.2.2.2.2.1 i j _ _ k (by omega) (List.getElem?_eq_getElem hi) (List.getElem?_eq_getElem hj) z1
      rw [List.take_of_length_le (by have := HN.out; omega)] at hown
      obtain ⟨vs, hvs⟩ : ∃ vs, As.flatMap An.vs = vs := ⟨_, rfl⟩
      obtain ⟨L0, hL0⟩ : ∃ L0, As.flatMap An.L = L0 := ⟨_, rfl⟩
      obtain ⟨kw, hkw⟩ : ∃ kw, Value.slice wa Bs.length wk = kw := ⟨_, rfl⟩
      have hti := all_ti hall
      have hap := ap_of (all_pw hall hpw)
      rw [hvs] at hown hti hap
      rw [hL0] at hti
      have hn1 : n ≤ 100 := by have := HH.out.2.1; have := HN.out; omega
      have HG0 : Hid (G1 w wr lo w.heap.size la N lk vs L0 bk ra rk kw As) := hid_mk ⟨⟨hown, hti, hap⟩, Fx.of_out hO, fun l hl => by
        rw [← hL0] at hl
        obtain ⟨A, hA, hlA⟩ := List.mem_flatMap.1 hl
        have hAa := hall A hA
        rcases List.mem_cons.1 hlA with rfl | q
        · have := hAa.2.1; have := hAa.2.2.2.1; omega
        · have := hAa.2.2.2.2.2 l q; omega, by omega, ⟨by rw [← hkw]; exact hK.1, hK.2.1, fun A hA => ⟨_, by have hr := (hall A hA).1.2.1; rw [(hall A hA).2.2.1] at hr; exact hr⟩⟩, HH.out.1⟩
      have HNb : Hid (n ≤ 100 ∧ (∀ A ∈ As, A.m ≤ 64) ∧ ∀ (i j : Nat) A B k, i ≠ j → As[i]? = some A → As[j]? = some B → A.d.ownBlock = some k → B.d.ownBlock ≠ some k) := hid_mk ⟨hn1, fun A hA => (hall A hA).2.2.2.2.1, fun i j A B k h1 h2 h3 h4 h5 => hK.2.2.2.2.2.1 i j A B k h1 h2 h3 (.inr (.inl h4)) (.inr (.inl h5))⟩
      clear hgo him hN65 hown hK hO hall hpw hvs hL0 hkw hti hap hn1 HK
      go_wp2
      clear k0
      go_loopw [5] (fun c wr => ∃ (r : Nat) (L : List (List Int)), c = .int .i64 r ∧ r ≤ 3 ∧ G1 w wr lo w.heap.size la N lk vs L bk ra rk kw As ∧ (1 ≤ r → Mke N L)) (fun c _ => 3 - (intOf c).toNat)
      case atStart => exact ⟨0, L0, rfl, by omega, HG0.out, fun h => by omega⟩
      case round =>
        obtain ⟨r, L, rfl, hr3, hG, hMk⟩ := hrel
        have HG0 := hid_mk hG
        clear hG
        have hr : r = 0 ∨ r = 1 ∨ r = 2 ∨ r = 3 := by omega
        rcases hr with rfl | rfl | rfl | rfl
        · clear hMk hr3
          (try rw [show ((0 : Nat) : Int) = 0 from rfl])
          as_aux_lemma =>
            go_wp2
            go_loopw [6] (fun c wr => ∃ (i : Nat) (Li : List (List Int)), c = .int .i64 i ∧ i ≤ N ∧ G1 w wr lo w.heap.size la N lk vs Li bk ra rk kw As ∧ Mke i Li) (fun c _ => N - (intOf c).toNat)
            case atStart => exact ⟨0, L, rfl, Nat.zero_le _, HG0.out, fun r l hr => by omega⟩
            case round =>
              obtain ⟨i, Li, rfl, him, hG, hM⟩ := hrel
              by_cases hgo : i < N
              · obtain ⟨l1, l2⟩ := lt_d hgo
                have HI : Hid (i < N ∧ N ≤ 100000) := hid_mk ⟨hgo, hG.2.2.2.1⟩
                obtain ⟨v, li, go, a, c, hv, hli, rfl, rfl, c1, hown⟩ := hG.1.row hgo
                obtain ⟨m, hm⟩ : ∃ m, li.length = m := ⟨_, rfl⟩
                have HW : Hid (G1 w wr lo w.heap.size (some ⟨go, 0, none⟩) N lk vs Li bk ra rk kw As ∧ Mke i Li ∧ Li[i]? = some li ∧ li.length = m ∧ vs[i]? = some (.slice a m c)) := hid_mk ⟨hG, hM, hli, hm, hm ▸ hv⟩
                have lmi : (i : Int) < (N : Int) := by omega
                clear hG hM hv hli hown hgo him c1 hm
                go_wp2
                go_loopw [7] (fun c wr => ∃ (j : Nat) (L2 : List (List Int)) (l2 : List Int), c = .int .i64 j ∧ j ≤ m ∧ G1 w wr lo w.heap.size (some ⟨go, 0, none⟩) N lk vs L2 bk ra rk kw As ∧ Mke i L2 ∧ L2[i]? = some l2 ∧ l2.length = m ∧ Mk2 i j l2) (fun c _ => m - (intOf c).toNat)
                case atStart => exact ⟨0, Li, li, rfl, Nat.zero_le _, HW.out.1, HW.out.2.1, HW.out.2.2.1, HW.out.2.2.2.1, fun k x hk => by omega⟩
                case round =>
                  obtain ⟨j, L2, l2, rfl, hjm, hG, hM, hli, hm, hM1⟩ := hrel
                  obtain ⟨v, l3, go2, a2, c2, hv, hli2, e2, e3, c1, hown⟩ := hG.1.row HI.out.1
                  cases e2
                  rw [hli] at hli2
                  cases hli2
                  rw [HW.out.2.2.2.2] at hv
                  cases hv
                  rw [hm] at e3 c1 hown
                  cases e3
                  have HJ : Hid (G1 w wr lo w.heap.size (some ⟨go, 0, none⟩) N lk vs L2 bk ra rk kw As ∧ Mke i L2 ∧ L2[i]? = some l2 ∧ l2.length = m ∧ Mk2 i j l2 ∧ m ≤ 100000) := hid_mk ⟨hG, hM, hli, hm, hM1, by have := hG.2.2.1 l2 (List.mem_of_getElem? hli); omega⟩
                  by_cases hgj : j < m
                  · obtain ⟨p1, p2⟩ := lt_d hgj
                    obtain ⟨g, cur, rfl, q1, q2, q3, -⟩ := own_cellsX hown (by omega)
                    obtain ⟨y0, hy0⟩ : ∃ y, (ivs l2)[j]? = some y := ⟨_, List.getElem?_eq_getElem (by unfold ivs; simp; omega)⟩
                    have c2 := q2 j y0 hy0
                    have f2 := q3.frozen j
                    have lmj : (j : Int) < (m : Int) := by omega
                    have HJ2 : Hid (j < m) := hid_mk hgj
                    obtain ⟨y, hy⟩ : ∃ y : Int, -2 - (i : Int) = y := ⟨_, rfl⟩
                    have hs2 : wrap64 (-2 - (i : Int)) = y := (sub_2 (i := i) (by have := HI.out; omega)).trans hy
                    have hG6 := G1.put (j := j) (y := y) HJ.out.1 (by rw [HJ.out.2.2.2.1]; exact HW.out.2.2.2.2) HJ.out.2.2.1
                    have HG6 := hid_mk (And.intro hG6 hy)
                    clear hG hM hli hm hM1 hown q1 q2 q3 hy0 hgj hjm hG6 hy
                    go_wp2
                    exact ⟨⟨j + 1, _, _, up_V HJ2.out (by have := HJ.out.2.2.2.2.2; omega), HJ2.out, HG6.out.1, HJ.out.2.1.set _, List.getElem?_set_self (List.getElem?_eq_some_iff.1 HJ.out.2.2.1).1, by rw [List.length_set]; exact HJ.out.2.2.2.1, by rw [← HG6.out.2]; exact HJ.out.2.2.2.2.1.set⟩, by rw [up_W HJ2.out (by have := HJ.out.2.2.2.2.2; omega)]; exact ms_N HJ2.out⟩
                  · obtain rfl : m = j := by omega
                    have p1 : decide ((m : Int) < (m : Int)) = false := by simp
                    clear hG hM hli hM1 hown hgj hjm hm
                    go_wp2
                    clear c1
                    go_loopw [8] (fun c w2 => c = .int .i64 1 ∧ w2 = wr) (fun _ _ => 0)
                    case atStart => exact ⟨rfl, rfl⟩
                    case round =>
                      obtain ⟨rfl, rfl⟩ := hrel
                      go_wp2
                      exact ⟨⟨i + 1, L2, up_V HI.out.1 (by have := HI.out; omega), HI.out.1, HJ.out.1, HJ.out.2.1.up HJ.out.2.2.1 (by rw [HJ.out.2.2.2.1]; exact HJ.out.2.2.2.2.1)⟩, by rw [up_W HI.out.1 (by have := HI.out; omega)]; exact ms_N HI.out.1⟩
              · obtain rfl : N = i := by omega
                have l1 : decide ((N : Int) < (N : Int)) = false := by simp
                have HE : Hid (G1 w wr lo w.heap.size la N lk vs Li bk ra rk kw As ∧ Mke N Li) := hid_mk ⟨hG, hM⟩
                clear hgo hG hM him
                go_wp2
                exact ⟨⟨1, Li, rfl, by omega, HE.out.1, fun _ => HE.out.2⟩, by simp [intOf]⟩
        · have HMk := hid_mk (hMk (by omega))
          clear hMk hr3
          (try rw [show ((1 : Nat) : Int) = 1 from rfl])
          as_aux_lemma =>
            go_wp2
            go_loopw [6] (fun c wr => ∃ (i : Nat), c = .int .i64 i ∧ i ≤ N ∧ G1 w wr lo w.heap.size la N lk vs L bk ra rk kw As) (fun c _ => N - (intOf c).toNat)
            case atStart => exact ⟨0, rfl, Nat.zero_le _, HG0.out⟩
            case round =>
              obtain ⟨i, rfl, him, hG⟩ := hrel
              by_cases hgo : i < N
              · obtain ⟨l1, l2⟩ := lt_d hgo
                have HI : Hid (i < N ∧ N ≤ 100000) := hid_mk ⟨hgo, hG.2.2.2.1⟩
                obtain ⟨v, li, go, a, c, hv, hli, rfl, rfl, c1, hown⟩ := hG.1.row hgo
                obtain ⟨m, hm⟩ : ∃ m, li.length = m := ⟨_, rfl⟩
                have HW : Hid (G1 w wr lo w.heap.size (some ⟨go, 0, none⟩) N lk vs L bk ra rk kw As ∧ True ∧ L[i]? = some li ∧ li.length = m ∧ vs[i]? = some (.slice a m c)) := hid_mk ⟨hG, trivial, hli, hm, hm ▸ hv⟩
                have lmi : (i : Int) < (N : Int) := by omega
                clear hG  hv hli hown hgo him c1 hm
                go_wp2
                go_loopw [7] (fun c wr => ∃ (j : Nat), c = .int .i64 j ∧ j ≤ m ∧ G1 w wr lo w.heap.size (some ⟨go, 0, none⟩) N lk vs L bk ra rk kw As) (fun c _ => m - (intOf c).toNat)
                case atStart => exact ⟨0, rfl, Nat.zero_le _, HW.out.1⟩
                case round =>
                  obtain ⟨j, rfl, hjm, hG⟩ := hrel
                  obtain ⟨v, l3, go2, a2, c2, hv, hli2, e2, e3, c1, hown⟩ := hG.1.row HI.out.1
                  cases e2
                  rw [HW.out.2.2.1] at hli2
                  cases hli2
                  rw [HW.out.2.2.2.2] at hv
                  cases hv
                  rw [HW.out.2.2.2.1] at e3 c1 hown
                  cases e3
                  have hm4 : m ≤ 100000 := by have := hG.2.2.1 li (List.mem_of_getElem? HW.out.2.2.1); have := HW.out.2.2.2.1; omega
                  by_cases hgj : j < m
                  · obtain ⟨p1, p2⟩ := lt_d hgj
                    have HJ2 : Hid (j < m ∧ m ≤ 100000 ∧ G1 w wr lo w.heap.size (some ⟨go, 0, none⟩) N lk vs L bk ra rk kw As) := hid_mk ⟨hgj, hm4, hG⟩
                    clear hG hown hm4 hgj hjm
                    go_wp2
                    exact ⟨⟨j + 1, up_V HJ2.out.1 (by have := HJ2.out; omega), HJ2.out.1, HJ2.out.2.2⟩, by rw [up_W HJ2.out.1 (by have := HJ2.out; omega)]; exact ms_N HJ2.out.1⟩
                  · obtain rfl : m = j := by omega
                    have p1 : decide ((m : Int) < (m : Int)) = false := by simp
                    have HG := hid_mk hG
                    clear hG hown hm4 hgj hjm
                    go_wp2
                    clear c1
                    go_loopw [8] (fun c wr => ∃ (g : Nat), c = .int .i64 g ∧ 1 ≤ g ∧ g ≤ 18 ∧ G1 w wr lo w.heap.size (some ⟨go, 0, none⟩) N lk vs L bk ra rk kw As) (fun c _ => 18 - (intOf c).toNat)
                    case atStart => exact ⟨1, rfl, by omega, by omega, HG.out⟩
                    case round =>
                      obtain ⟨g, rfl, hg1, hg2, hG⟩ := hrel
                      by_cases hgg : g ≤ 17
                      · have p1 : decide ((g : Int) ≤ 17) = true := by simp; omega
                        obtain ⟨v, l3, go2, a2, c2, hv, hli2, e2, e3, c1, hown⟩ := hG.1.row HI.out.1
                        cases e2
                        rw [HW.out.2.2.1] at hli2
                        cases hli2
                        have hv' := hv
                        rw [HW.out.2.2.2.2] at hv
                        cases hv
                        rw [HW.out.2.2.2.1] at e3 c1 hown
                        cases e3
                        have lmi : (i : Int) < (N : Int) := by have := HI.out.1; omega
                        have hm4 : m ≤ 100000 := by have := hG.2.2.1 li (List.mem_of_getElem? HW.out.2.2.1); have := HW.out.2.2.2.1; omega
                        obtain ⟨hG1, hG2⟩ := gw_b hg1 hgg
                        obtain ⟨qq, hqq⟩ : ∃ qq, g / 17 = qq := ⟨_, rfl⟩
                        obtain ⟨ss, hss⟩ : ∃ ss, qq * 80 = ss := ⟨_, rfl⟩
                        obtain ⟨GG, hGG⟩ : ∃ GG, g + ss = GG := ⟨_, rfl⟩
                        have hgw : gwV g = GG := by unfold gwV; rw [hqq, hss, hGG]
                        rw [hgw] at hG1 hG2
                        obtain ⟨NN, hNN⟩ : ∃ NN, m + GG = NN := ⟨_, rfl⟩
                        obtain ⟨ee, hee⟩ : ∃ ee, m + GG - 1 = ee := ⟨_, rfl⟩
                        obtain ⟨g4, cap4, w6, hr, ⟨u, cu⟩, fu, x6, hst, hor, -⟩ := grow_any (w := wr) (m := GG) (T := 68) Tryd.underlying68 info_int rfl rfl (by decide) hown (Nat.le_trans hG.2.2.2.2.2 hG.2.1.size) hm4 hG1 hG2 68
                        rw [hNN] at hr
                        rw [hee] at cu fu
                        have hIL : IL (w6.setCell ⟨g4, ee, none⟩ (.int .i64 7)) lo (.slice a m c) li := ⟨a, c, by rw [HW.out.2.2.2.1], by rw [HW.out.2.2.2.1]; exact own_far hst g4 ee (by omega) _⟩
                        have hG6 := hG.same hv' HW.out.2.2.1 hIL (x6.set (p := ⟨g4, ee, none⟩) hor _)
                        have HAr := hid_mk (gw_all hg1 hgg hm4 hqq hss hGG hNN hee)
                        have HG6 := hid_mk hG6
                        have HR := hid_mk hr
                        have HGb : Hid (1 ≤ g ∧ g ≤ 17) := hid_mk ⟨hg1, hgg⟩
                        clear hG hv' hown hm4 hG1 hG2 hqq hss hGG hgw hNN hee hr x6 hst hor hIL hG6 hg1 hg2 hgg
                        have h1q := HAr.out.2.2.1
                        go_wp2_with (at_builtin; clear h1q; (try rw [HAr.out.2.2.2.1]); (try rw [HAr.out.2.2.2.2.1]); (try rw [HAr.out.2.2.2.2.2.1]); (try rw [HAr.out.2.2.2.2.2.2]); refine app_st rfl _ _ _ _ rfl rfl rfl HR.out ?_; have hsub := HAr.out.1; have lt := HAr.out.2.1)
                        clear hsub lt
                        exact ⟨⟨g + 1, up_V (K := 18) (by have := HGb.out; omega) (by omega), by omega, by have := HGb.out; omega, HG6.out⟩, by rw [up_W (K := 18) (by have := HGb.out; omega) (by omega)]; exact ms_17Y HGb.out.2⟩
                      · have p1 : decide ((g : Int) ≤ 17) = false := by simp; omega
                        have HG2 := hid_mk hG
                        clear hG hg1 hg2 hgg
                        go_wp2
                        exact ⟨⟨i + 1, up_V HI.out.1 (by have := HI.out; omega), HI.out.1, HG2.out⟩, by rw [up_W HI.out.1 (by have := HI.out; omega)]; exact ms_N HI.out.1⟩
              · obtain rfl : N = i := by omega
                have l1 : decide ((N : Int) < (N : Int)) = false := by simp
                have HE : Hid (G1 w wr lo w.heap.size la N lk vs L bk ra rk kw As ∧ True) := hid_mk ⟨hG, trivial⟩
                clear hgo hG  him
                go_wp2
                exact ⟨⟨2, L, rfl, by omega, HE.out.1, fun _ => HMk.out⟩, by simp [intOf]⟩
        · have HMk := hid_mk (hMk (by omega))
          clear hMk hr3
          (try rw [show ((2 : Nat) : Int) = 2 from rfl])
          as_aux_lemma =>
            go_wp2
            go_loopw [6] (fun c wr => ∃ (i : Nat), c = .int .i64 i ∧ i ≤ N ∧ G1 w wr lo w.heap.size la N lk vs L bk ra rk kw As) (fun c _ => N - (intOf c).toNat)
            case atStart => exact ⟨0, rfl, Nat.zero_le _, HG0.out⟩
            case round =>
              obtain ⟨i, rfl, him, hG⟩ := hrel
              by_cases hgo : i < N
              · obtain ⟨l1, l2⟩ := lt_d hgo
                have HI : Hid (i < N ∧ N ≤ 100000) := hid_mk ⟨hgo, hG.2.2.2.1⟩
                obtain ⟨v, li, go, a, c, hv, hli, rfl, rfl, c1, hown⟩ := hG.1.row hgo
                obtain ⟨m, hm⟩ : ∃ m, li.length = m := ⟨_, rfl⟩
                have HW : Hid (G1 w wr lo w.heap.size (some ⟨go, 0, none⟩) N lk vs L bk ra rk kw As ∧ True ∧ L[i]? = some li ∧ li.length = m ∧ vs[i]? = some (.slice a m c)) := hid_mk ⟨hG, trivial, hli, hm, hm ▸ hv⟩
                have lmi : (i : Int) < (N : Int) := by omega
                clear hG  hv hli hown hgo him c1 hm
                go_wp2
                go_loopw [7] (fun c wr => ∃ (j : Nat), c = .int .i64 j ∧ j ≤ m ∧ G1 w wr lo w.heap.size (some ⟨go, 0, none⟩) N lk vs L bk ra rk kw As) (fun c _ => m - (intOf c).toNat)
                case atStart => exact ⟨0, rfl, Nat.zero_le _, HW.out.1⟩
                case round =>
                  obtain ⟨j, rfl, hjm, hG⟩ := hrel
                  obtain ⟨v, l3, go2, a2, c2, hv, hli2, e2, e3, c1, hown⟩ := hG.1.row HI.out.1
                  cases e2
                  rw [HW.out.2.2.1] at hli2
                  cases hli2
                  rw [HW.out.2.2.2.2] at hv
                  cases hv
                  rw [HW.out.2.2.2.1] at e3 c1 hown
                  cases e3
                  have hm4 : m ≤ 100000 := by have := hG.2.2.1 li (List.mem_of_getElem? HW.out.2.2.1); have := HW.out.2.2.2.1; omega
                  by_cases hgj : j < m
                  · obtain ⟨p1, p2⟩ := lt_d hgj
                    have HJ2 : Hid (j < m ∧ m ≤ 100000 ∧ G1 w wr lo w.heap.size (some ⟨go, 0, none⟩) N lk vs L bk ra rk kw As) := hid_mk ⟨hgj, hm4, hG⟩
                    obtain ⟨g, cur, rfl, q1, q2, q3, -⟩ := own_cellsX hown (by omega)
                    obtain ⟨y, hy⟩ : ∃ y, li[j]? = some y := ⟨_, List.getElem?_eq_getElem (by have := HW.out.2.2.2.1; omega)⟩
                    have hyv : y = -2 - (i : Int) := HMk.out i li HI.out.1 HW.out.2.2.1 y (List.mem_of_getElem? hy)
                    have c2 : wr.cell? ⟨g, j, none⟩ = some (.int .i64 y) := q2 j _ (by unfold ivs; rw [List.getElem?_map, hy]; rfl)
                    have hs2 : wrap64 (-2 - (i : Int)) = y := (sub_2 (i := i) (by have := HI.out; omega)).trans hyv.symm
                    have lmj : (j : Int) < (m : Int) := by omega
                    clear q1 q2 q3 hy hyv
                    clear hG hown hm4 hgj hjm
                    go_wp2
                    exact ⟨⟨j + 1, up_V HJ2.out.1 (by have := HJ2.out; omega), HJ2.out.1, HJ2.out.2.2⟩, by rw [up_W HJ2.out.1 (by have := HJ2.out; omega)]; exact ms_N HJ2.out.1⟩
                  · obtain rfl : m = j := by omega
                    have p1 : decide ((m : Int) < (m : Int)) = false := by simp
                    have HG := hid_mk hG
                    clear hG hown hm4 hgj hjm
                    go_wp2
                    clear c1
                    go_loopw [8] (fun c w2 => c = .int .i64 1 ∧ w2 = wr) (fun _ _ => 0)
                    case atStart => exact ⟨rfl, rfl⟩
                    case round =>
                      obtain ⟨rfl, rfl⟩ := hrel
                      go_wp2
                      exact ⟨⟨i + 1, up_V HI.out.1 (by have := HI.out; omega), HI.out.1, HG.out⟩, by rw [up_W HI.out.1 (by have := HI.out; omega)]; exact ms_N HI.out.1⟩
              · obtain rfl : N = i := by omega
                have l1 : decide ((N : Int) < (N : Int)) = false := by simp
                have HE : Hid (G1 w wr lo w.heap.size la N lk vs L bk ra rk kw As ∧ True) := hid_mk ⟨hG, trivial⟩
                clear hgo hG  him
                go_wp2
                exact ⟨⟨3, L, rfl, by omega, HE.out.1, fun _ => HMk.out⟩, by simp [intOf]⟩
        · clear hMk hr3
          (try rw [show ((3 : Nat) : Int) = 3 from rfl])
          go_wp2
          obtain ⟨X0, hX1, hX2⟩ := pd_x HG0.out.2.2.2.2.1.2.2
          have HX0 : Hid (H2 w wr lo bk ra rk kw As X0) := hid_mk ⟨HG0.out.2.2.2.2.1.1, HG0.out.2.2.2.2.1.2.1, hX1, hX2, HG0.out.2.1, HG0.out.2.2.2.2.2⟩
          clear hX1 hX2 HG0
          go_loopw [10] (fun c wr => ∃ (r : Nat) (X : List (List Value)), c = .int .i64 r ∧ r ≤ 3 ∧ H2 w wr lo bk ra rk kw As X ∧ (1 ≤ r → MX wr n X)) (fun c _ => 3 - (intOf c).toNat)
          case atStart => exact ⟨0, X0, rfl, by omega, HX0.out, fun h => by omega⟩
          case round =>
            obtain ⟨r, X, rfl, hr3, hH, hMk⟩ := hrel
            have HH0 := hid_mk hH
            clear hH HX0
            have hr : r = 0 ∨ r = 1 ∨ r = 2 ∨ r = 3 := by omega
            rcases hr with rfl | rfl | rfl | rfl
            · clear hMk hr3
              (try rw [show ((0 : Nat) : Int) = 0 from rfl])
              as_aux_lemma =>
                go_wp2
                go_loopw [11] (fun c wr => ∃ (i : Nat) (Xi : List (List Value)), c = .int .i64 i ∧ i ≤ n ∧ H2 w wr lo bk ra rk kw As Xi ∧ MX wr i Xi) (fun c _ => n - (intOf c).toNat)
                case atStart => exact ⟨0, X, rfl, Nat.zero_le _, HH0.out, fun a ys b u h => by omega⟩
                case round =>
                  obtain ⟨i, Xi, rfl, him, hH, hM⟩ := hrel
                  have b0 := hH.1.cell (i := 0) rfl
                  rw [HN.out] at b0
                  by_cases hgo : i < n
                  · obtain ⟨l1, l2⟩ := lt_d hgo
                    obtain ⟨A, hA⟩ : ∃ A, As[i]? = some A := ⟨_, List.getElem?_eq_getElem (by have := HN.out; omega)⟩
                    obtain ⟨xi, hxi⟩ : ∃ xi, Xi[i]? = some xi := ⟨_, List.getElem?_eq_getElem (by have := HN.out; have := hH.2.2.1; omega)⟩
                    obtain ⟨gr, cur, rfl, -, -, -⟩ := own_cellsX hH.2.1 (by have := HN.out; omega)
                    obtain ⟨m, hm⟩ : ∃ m, A.m = m := ⟨_, rfl⟩
                    have HI : Hid (i < n ∧ As[i]? = some A ∧ A.m = m ∧ n ≤ 100 ∧ m ≤ 64) := hid_mk ⟨hgo, hA, hm, HNb.out.1, by rw [← hm]; exact HNb.out.2.1 A (List.mem_of_getElem? hA)⟩
                    have HW : Hid (H2 w wr lo bk (some ⟨gr, 0, none⟩) rk kw As Xi ∧ MX wr i Xi ∧ Xi[i]? = some xi) := hid_mk ⟨hH, hM, hxi⟩
                    have lmi : (i : Int) < (n : Int) := by omega
                    clear hH hM hA hxi hm hgo him
                    go_wp2
                    clear b0
                    go_loopw [12] (fun c wr => ∃ (j : Nat) (X : List (List Value)) (xs : List Value), c = .int .i64 j ∧ j ≤ m ∧ H2 w wr lo bk (some ⟨gr, 0, none⟩) rk kw As X ∧ MX wr i X ∧ X[i]? = some xs ∧ MX1 wr i j xs) (fun c _ => m - (intOf c).toNat)
                    case atStart => exact ⟨0, Xi, xi, rfl, Nat.zero_le _, HW.out.1, HW.out.2.1, HW.out.2.2, fun j u h => by omega⟩
                    case round =>
                      obtain ⟨j, X, xs, rfl, hjm, hH, hM, hx, hM1⟩ := hrel
                      have b0 := hH.1.cell (i := 0) rfl
                      rw [HN.out] at b0
                      have b1 := own_at2 hH.2.1 (acl_at HI.out.2.1).2
                      unfold An.d at b1
                      rw [HI.out.2.2.1] at b1
                      have hr := hH.2.2.2.1 i A xs HI.out.2.1 hx
                      unfold An.d at hr
                      rw [HI.out.2.2.1] at hr
                      by_cases hgj : j < m
                      · obtain ⟨p1, p2⟩ := lt_d hgj
                        obtain ⟨gd, cur, hda, q1, q2, q3, -⟩ := own_cellsX hr (by omega)
                        obtain ⟨y0, hy0⟩ : ∃ y, xs[j]? = some y := ⟨_, List.getElem?_eq_getElem (by have := hr.1; omega)⟩
                        have c2 := q2 j y0 hy0
                        have f2 := q3.frozen j
                        have hP := put_2 (c := 0) (m := 0) (j := j) HNb.out.2.2 hH HI.out.2.1 hx hda hM hM1
                        rw [World.setCell_alloc_past _ _ _ _ q3.lt] at hP
                        obtain ⟨T, hTs⟩ : ∃ T, wr.heap.size = T := ⟨_, rfl⟩
                        rw [hTs] at hP
                        have hgT : gd < T := by rw [← hTs]; exact q3.lt
                        rw [hda] at b1
                        have lmj : (j : Int) < (m : Int) := by omega
                        have hset : ∀ ys : List Value, (X.set i ys)[i]? = some ys := fun ys => List.getElem?_set_self (List.getElem?_eq_some_iff.1 hx).1
                        have HP := hid_mk (And.intro hP (And.intro hgj hset))
                        clear hH hM hx hM1 hr hda q1 q2 q3 hy0 hgj hjm hP hset
                        go_wp2
                        exact ⟨⟨j + 1, _, _, up_V HP.out.2.1 (by have := HI.out; omega), HP.out.2.1, HP.out.1.1, HP.out.1.2.1, HP.out.2.2 _, HP.out.1.2.2⟩, by rw [up_W HP.out.2.1 (by have := HI.out; omega)]; exact ms_N HP.out.2.1⟩
                      · obtain rfl : m = j := by omega
                        have p1 : decide ((m : Int) < (m : Int)) = false := by simp
                        have hxl : xs.length = m := by have := hr.1; omega
                        have HE : Hid (H2 w wr lo bk (some ⟨gr, 0, none⟩) rk kw As X ∧ MX wr (i + 1) X) := hid_mk ⟨hH, fun a ys b u z1 z2 z3 => by
                          by_cases hai : a = i
                          · subst hai
                            rw [hx] at z2
                            cases z2
                            exact hM1 b u (by have := (List.getElem?_eq_some_iff.1 z3).1; omega) z3
                          · exact hM a ys b u (by omega) z2 z3⟩
                        clear hH hM hx hM1 hr hgj hjm hxl
                        go_wp2
                        clear b0 b1
                        go_loopw [13] (fun c w2 => c = .int .i64 1 ∧ w2 = wr) (fun _ _ => 0)
                        case atStart => exact ⟨rfl, rfl⟩
                        case round =>
                          obtain ⟨rfl, rfl⟩ := hrel
                          go_wp2
                          exact ⟨⟨i + 1, X, up_V HI.out.1 (by have := HI.out; omega), HI.out.1, HE.out⟩, by rw [up_W HI.out.1 (by have := HI.out; omega)]; exact ms_N HI.out.1⟩
                  · obtain rfl : n = i := by omega
                    have l1 : decide ((n : Int) < (n : Int)) = false := by simp
                    have HE := hid_mk (And.intro hH hM)
                    clear hgo hH hM him
                    go_wp2
                    exact ⟨⟨1, Xi, rfl, by omega, HE.out.1, fun _ => HE.out.2⟩, by simp [intOf]⟩
            · have HMk := hid_mk (hMk (by omega))
              clear hMk hr3
              (try rw [show ((1 : Nat) : Int) = 1 from rfl])
              as_aux_lemma =>
                go_wp2
                go_loopw [11] (fun c wr => ∃ (i : Nat), c = .int .i64 i ∧ i ≤ n ∧ H2 w wr lo bk ra rk kw As X ∧ MX wr n X) (fun c _ => n - (intOf c).toNat)
                case atStart => exact ⟨0, rfl, Nat.zero_le _, HH0.out, HMk.out⟩
                case round =>
                  obtain ⟨i, rfl, him, hH, hM⟩ := hrel
                  have b0 := hH.1.cell (i := 0) rfl
                  rw [HN.out] at b0
                  by_cases hgo : i < n
                  · obtain ⟨l1, l2⟩ := lt_d hgo
                    obtain ⟨A, hA⟩ : ∃ A, As[i]? = some A := ⟨_, List.getElem?_eq_getElem (by have := HN.out; omega)⟩
                    obtain ⟨xi, hxi⟩ : ∃ xi, X[i]? = some xi := ⟨_, List.getElem?_eq_getElem (by have := HN.out; have := hH.2.2.1; omega)⟩
                    obtain ⟨gr, cur, rfl, -, -, -⟩ := own_cellsX hH.2.1 (by have := HN.out; omega)
                    obtain ⟨m, hm⟩ : ∃ m, A.m = m := ⟨_, rfl⟩
                    have HI : Hid (i < n ∧ As[i]? = some A ∧ A.m = m ∧ n ≤ 100 ∧ m ≤ 64) := hid_mk ⟨hgo, hA, hm, HNb.out.1, by rw [← hm]; exact HNb.out.2.1 A (List.mem_of_getElem? hA)⟩
                    have HW : Hid (H2 w wr lo bk (some ⟨gr, 0, none⟩) rk kw As X ∧ MX wr n X ∧ X[i]? = some xi) := hid_mk ⟨hH, hM, hxi⟩
                    have lmi : (i : Int) < (n : Int) := by omega
                    clear hH hM hA hxi hm hgo him
                    go_wp2
                    clear b0
                    go_loopw [12] (fun c wr => ∃ (j : Nat), c = .int .i64 j ∧ j ≤ m ∧ H2 w wr lo bk (some ⟨gr, 0, none⟩) rk kw As X ∧ MX wr n X) (fun c _ => m - (intOf c).toNat)
                    case atStart => exact ⟨0, rfl, Nat.zero_le _, HW.out.1, HW.out.2.1⟩
                    case round =>
                      obtain ⟨j, rfl, hjm, hH, hM⟩ := hrel
                      have b0 := hH.1.cell (i := 0) rfl
                      rw [HN.out] at b0
                      have b1 := own_at2 hH.2.1 (acl_at HI.out.2.1).2
                      unfold An.d at b1
                      rw [HI.out.2.2.1] at b1
                      have HJ := hid_mk (And.intro hH hM)
                      by_cases hgj : j < m
                      · obtain ⟨p1, p2⟩ := lt_d hgj
                        have HJ2 : Hid (j < m) := hid_mk hgj
                        clear hH hM hjm hgj
                        go_wp2
                        exact ⟨⟨j + 1, up_V HJ2.out (by have := HI.out; omega), HJ2.out, HJ.out⟩, by rw [up_W HJ2.out (by have := HI.out; omega)]; exact ms_N HJ2.out⟩
                      · obtain rfl : m = j := by omega
                        have p1 : decide ((m : Int) < (m : Int)) = false := by simp
                        clear hH hM hgj hjm
                        go_wp2
                        clear b0 b1
                        go_loopw [13] (fun c wr => ∃ (g : Nat), c = .int .i64 g ∧ 1 ≤ g ∧ g ≤ 18 ∧ H2 w wr lo bk (some ⟨gr, 0, none⟩) rk kw As X ∧ MX wr n X) (fun c _ => 18 - (intOf c).toNat)
                        case atStart => exact ⟨1, rfl, by omega, by omega, HJ.out⟩
                        case round =>
                          obtain ⟨g, rfl, hg1, hg2, hH, hM⟩ := hrel
                          by_cases hgg : g ≤ 17
                          · have p1 : decide ((g : Int) ≤ 17) = true := by simp; omega
                            have b0 := hH.1.cell (i := 0) rfl
                            rw [HN.out] at b0
                            have b1 := own_at2 hH.2.1 (acl_at HI.out.2.1).2
                            unfold An.d at b1
                            rw [HI.out.2.2.1] at b1
                            have hr0 := hH.2.2.2.1 i A xi HI.out.2.1 HW.out.2.2
                            have hr := hr0
                            unfold An.d at hr
                            rw [HI.out.2.2.1] at hr
                            obtain ⟨hG1, hG2⟩ := gw_b hg1 hgg
                            obtain ⟨qq, hqq⟩ : ∃ qq, g / 17 = qq := ⟨_, rfl⟩
                            obtain ⟨ss, hss⟩ : ∃ ss, qq * 80 = ss := ⟨_, rfl⟩
                            obtain ⟨GG, hGG⟩ : ∃ GG, g + ss = GG := ⟨_, rfl⟩
                            have hgw : gwV g = GG := by unfold gwV; rw [hqq, hss, hGG]
                            rw [hgw] at hG1 hG2
                            obtain ⟨NN, hNN⟩ : ∃ NN, m + GG = NN := ⟨_, rfl⟩
                            obtain ⟨ee, hee⟩ : ∃ ee, m + GG - 1 = ee := ⟨_, rfl⟩
                            obtain ⟨g4, cap4, w6, hr6, ⟨u, cu⟩, fu, x6, hst, hor, -⟩ := grow_any (w := wr) (m := GG) (T := 69) Tryd.underlying69 info_ints rfl rfl (by decide) hr (Nat.le_trans hH.2.2.2.2.2 hH.2.2.2.2.1.size) (by have := HI.out; omega) hG1 hG2 69
                            rw [hNN] at hr6
                            rw [hee] at cu fu
                            have oA : Out 0 0 w6 (w6.alloc (.cells #[.int .i64 7] 3)) := (Out.refl 0 0 w6).alloc _
                            have hT6 : ((w6.alloc (.cells #[.int .i64 7] 3)).setCell ⟨g4, ee, none⟩ (.slice (some ⟨w6.heap.size, 0, none⟩) 1 1)).ownsRow lo 68 1 A.d A.m xi := by
                              unfold An.d
                              rw [HI.out.2.2.1]
                              exact own_far (own_fx (S := fun _ => False) hst (Fx.of_out oA) (fun _ _ q => q)) g4 ee (by omega) _
                            have x8 : Fx (fun k => A.d.ownBlock = some k) wr ((w6.alloc (.cells #[.int .i64 7] 3)).setCell ⟨g4, ee, none⟩ (.slice (some ⟨w6.heap.size, 0, none⟩) 1 1)) := by
                              unfold An.d
                              rw [HI.out.2.2.1]
                              exact (x6.trans (Fx.of_out oA)).set (p := ⟨g4, ee, none⟩) hor _
                            obtain ⟨s1, s2⟩ := hH.step HNb.out.2.2 HI.out.2.1 HW.out.2.2 hT6 x8
                            rw [set_sameX HW.out.2.2] at s1
                            have sM : MX ((w6.alloc (.cells #[.int .i64 7] 3)).setCell ⟨g4, ee, none⟩ (.slice (some ⟨w6.heap.size, 0, none⟩) 1 1)) n X := fun a ys b u z1 z2 z3 => (hM a ys b u z1 z2 z3).fx x8 s2
                            rw [World.setCell_alloc_past _ _ _ _ (cell_lt cu)] at s1 sM
                            obtain ⟨T6, hT6s⟩ : ∃ T6, w6.heap.size = T6 := ⟨_, rfl⟩
                            have hg4 : g4 < T6 := by rw [← hT6s]; exact cell_lt cu
                            rw [hT6s] at s1 sM
                            have HAr := hid_mk (gw_all hg1 hgg (Nat.le_trans HI.out.2.2.2.2 (by decide)) hqq hss hGG hNN hee)
                            have lmi : (i : Int) < (n : Int) := by have := HI.out.1; omega
                            have HG6 := hid_mk (And.intro s1 sM)
                            have HR := hid_mk hr6
                            have HGb : Hid (1 ≤ g ∧ g ≤ 17) := hid_mk ⟨hg1, hgg⟩
                            clear hH hM hr0 hr hG1 hG2 hqq hss hGG hgw hNN hee hr6 x6 hst hor oA hT6 x8 s1 s2 sM hg1 hg2 hgg
                            have h1q := HAr.out.2.2.1
                            go_wp2_with (at_builtin; clear h1q; (try rw [HAr.out.2.2.2.1]); (try rw [HAr.out.2.2.2.2.1]); (try rw [HAr.out.2.2.2.2.2.1]); (try rw [HAr.out.2.2.2.2.2.2]); refine app_st rfl _ _ _ _ rfl rfl rfl HR.out ?_; have hsub := HAr.out.1; have lt := HAr.out.2.1)
                            clear hsub lt
                            exact ⟨⟨g + 1, up_V (K := 18) (by have := HGb.out; omega) (by omega), by omega, by have := HGb.out; omega, HG6.out⟩, by rw [up_W (K := 18) (by have := HGb.out; omega) (by omega)]; exact ms_17Y HGb.out.2⟩
                          · have p1 : decide ((g : Int) ≤ 17) = false := by simp; omega
                            have HG2 := hid_mk (And.intro hH hM)
                            clear hH hM hg1 hg2 hgg
                            go_wp2
                            exact ⟨⟨i + 1, up_V HI.out.1 (by have := HI.out; omega), HI.out.1, HG2.out⟩, by rw [up_W HI.out.1 (by have := HI.out; omega)]; exact ms_N HI.out.1⟩
                  · obtain rfl : n = i := by omega
                    have l1 : decide ((n : Int) < (n : Int)) = false := by simp
                    have HE := hid_mk (And.intro hH hM)
                    clear hgo hH hM him
                    go_wp2
                    exact ⟨⟨2, X, rfl, by omega, HE.out.1, fun _ => HE.out.2⟩, by simp [intOf]⟩
            · have HMk := hid_mk (hMk (by omega))
              clear hMk hr3
              (try rw [show ((2 : Nat) : Int) = 2 from rfl])
              as_aux_lemma =>
                go_wp2
                go_loopw [11] (fun c wr => ∃ (i : Nat), c = .int .i64 i ∧ i ≤ n ∧ H2 w wr lo bk ra rk kw As X ∧ MX wr n X) (fun c _ => n - (intOf c).toNat)
                case atStart => exact ⟨0, rfl, Nat.zero_le _, HH0.out, HMk.out⟩
                case round =>
                  obtain ⟨i, rfl, him, hH, hM⟩ := hrel
                  have b0 := hH.1.cell (i := 0) rfl
                  rw [HN.out] at b0
                  by_cases hgo : i < n
                  · obtain ⟨l1, l2⟩ := lt_d hgo
                    obtain ⟨A, hA⟩ : ∃ A, As[i]? = some A := ⟨_, List.getElem?_eq_getElem (by have := HN.out; omega)⟩
                    obtain ⟨xi, hxi⟩ : ∃ xi, X[i]? = some xi := ⟨_, List.getElem?_eq_getElem (by have := HN.out; have := hH.2.2.1; omega)⟩
                    obtain ⟨gr, cur, rfl, -, -, -⟩ := own_cellsX hH.2.1 (by have := HN.out; omega)
                    obtain ⟨m, hm⟩ : ∃ m, A.m = m := ⟨_, rfl⟩
                    have HI : Hid (i < n ∧ As[i]? = some A ∧ A.m = m ∧ n ≤ 100 ∧ m ≤ 64) := hid_mk ⟨hgo, hA, hm, HNb.out.1, by rw [← hm]; exact HNb.out.2.1 A (List.mem_of_getElem? hA)⟩
                    have HW : Hid (H2 w wr lo bk (some ⟨gr, 0, none⟩) rk kw As X ∧ MX wr n X ∧ X[i]? = some xi) := hid_mk ⟨hH, hM, hxi⟩
                    have lmi : (i : Int) < (n : Int) := by omega
                    clear hH hM hA hxi hm hgo him
                    go_wp2
                    clear b0
                    go_loopw [12] (fun c wr => ∃ (j : Nat), c = .int .i64 j ∧ j ≤ m ∧ H2 w wr lo bk (some ⟨gr, 0, none⟩) rk kw As X ∧ MX wr n X) (fun c _ => m - (intOf c).toNat)
                    case atStart => exact ⟨0, rfl, Nat.zero_le _, HW.out.1, HW.out.2.1⟩
                    case round =>
                      obtain ⟨j, rfl, hjm, hH, hM⟩ := hrel
                      have b0 := hH.1.cell (i := 0) rfl
                      rw [HN.out] at b0
                      have b1 := own_at2 hH.2.1 (acl_at HI.out.2.1).2
                      unfold An.d at b1
                      rw [HI.out.2.2.1] at b1
                      have HJ := hid_mk (And.intro hH hM)
                      by_cases hgj : j < m
                      · obtain ⟨p1, p2⟩ := lt_d hgj
                        have HJ2 : Hid (j < m) := hid_mk hgj
                        have hr := hH.2.2.2.1 i A xi HI.out.2.1 HW.out.2.2
                        unfold An.d at hr
                        rw [HI.out.2.2.1] at hr
                        obtain ⟨gd, cur, hda, q1, q2, q3, -⟩ := own_cellsX hr (by omega)
                        rw [hda] at b1
                        obtain ⟨y0, hy0⟩ : ∃ y, xi[j]? = some y := ⟨_, List.getElem?_eq_getElem (by have := hr.1; omega)⟩
                        have c2 := q2 j y0 hy0
                        obtain ⟨tt, rfl, hth⟩ := hM i xi j y0 HI.out.1 HW.out.2.2 hy0
                        have lmj : (j : Int) < (m : Int) := by omega
                        obtain ⟨T, hTs⟩ : ∃ T, wr.heap.size = T := ⟨_, rfl⟩
                        obtain ⟨W2, hW2⟩ : ∃ W2, wr.alloc (.cells #[.int .i64 (i : Int), .int .i64 (j : Int)] 3) = W2 := ⟨_, rfl⟩
                        have oA : Out 0 0 wr W2 := by rw [← hW2]; exact (Out.refl 0 0 wr).alloc _
                        have HSm := hid_mk (ints_same (w := W2) [(i : Int), (j : Int)] (some ⟨tt, 0, none⟩) (some ⟨T, 0, none⟩) 2 2 2 rfl (bl_iv (oA.heap hth (.inr (Nat.zero_le _)))) (bl_iv (by rw [← hW2, ← hTs]; exact heap_alloc_new _ _)) (by omega))
                        have HOA := hid_mk oA
                        clear hr hda q1 q2 q3 hy0 hth oA
                        clear hH hM hjm hgj
                        go_wp2_with fail
                        (try rw [hW2])
                        (try rw [hTs])
                        clear hW2 hTs
                        refine HSm.out.mono ?_
                        rintro e w9 ⟨rfl, o9⟩
                        have HO9 := hid_mk (HOA.out.trans o9)
                        clear o9 b0 b1 c2
                        go_wp2
                        exact ⟨⟨j + 1, up_V HJ2.out (by have := HI.out; have := HJ2.out; omega), HJ2.out, HJ.out.1.quiet HO9.out, HJ.out.2.quiet HO9.out⟩, by rw [up_W HJ2.out (by have := HI.out; omega)]; exact ms_N HJ2.out⟩
                      · obtain rfl : m = j := by omega
                        have p1 : decide ((m : Int) < (m : Int)) = false := by simp
                        clear hH hM hgj hjm
                        go_wp2
                        clear b0 b1
                        go_loopw [13] (fun c w2 => c = .int .i64 1 ∧ w2 = wr) (fun _ _ => 0)
                        case atStart => exact ⟨rfl, rfl⟩
                        case round =>
                          obtain ⟨rfl, rfl⟩ := hrel
                          go_wp2
                          exact ⟨⟨i + 1, up_V HI.out.1 (by have := HI.out; omega), HI.out.1, HJ.out⟩, by rw [up_W HI.out.1 (by have := HI.out; omega)]; exact ms_N HI.out.1⟩
                  · obtain rfl : n = i := by omega
                    have l1 : decide ((n : Int) < (n : Int)) = false := by simp
                    have HE := hid_mk (And.intro hH hM)
                    clear hgo hH hM him
                    go_wp2
                    exact ⟨⟨3, X, rfl, by omega, HE.out.1, fun _ => HE.out.2⟩, by simp [intOf]⟩
            · clear hMk hr3
              (try rw [show ((3 : Nat) : Int) = 3 from rfl])
              go_wp2
              go_ret
              exact ⟨rfl, HH0.out.2.2.2.2.1⟩
end Go.Proofs.YtkghabmgofgclaaDoor
