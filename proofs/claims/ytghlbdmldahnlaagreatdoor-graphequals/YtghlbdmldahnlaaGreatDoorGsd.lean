/- hearthref10: SameNode, Equal -/
import Derived.Test.YtghlbdmldahnlaaGreatDoorGsc
namespace Go.Proofs.YtghlbdmldahnlaaGreatDoor
open Go.RowKit
set_option linter.unusedVariables false
set_option linter.unusedSimpArgs false

theorem len_nm {l r : List Int} {n m s : Nat} (hl : l.length = n * s) (hr : r.length = m * s) (hs : 0 < s) (h : n ≠ m) : decide (l = r) = false := by
  simp only [decide_eq_false_iff_not]
  intro e
  subst e
  rw [hl] at hr
  exact h (Nat.eq_of_mul_eq_mul_right hs hr)
set_option maxRecDepth 100000 in
set_option maxHeartbeats 4000000 in
theorem refSame_any {w : World} {B C : Nat} (i k i' k' : Int) (pr pf pe pr' pf' pe' : Option Addr) (nr cr nf cf ne ce nr' cr' nf' cf' ne' ce' : Nat) (r f e r' f' e' : List Int) (l1 : r.length = nr * 1) (l2 : f.length = nf * 2) (l3 : e.length = ne * 4) (l1' : r'.length = nr' * 1) (l2' : f'.length = nf' * 2) (l3' : e'.length = ne' * 4)
    (h1 : IsIn w B pr r) (h2 : IsIn w B pf f) (h3 : IsIn w B pe e) (h1' : IsIn w C pr' r') (h2' : IsIn w C pf' f') (h3' : IsIn w C pe' e') (hn1 : nr ≤ 200000) (hn2 : nf ≤ 200000) (hn3 : ne ≤ 200000) :
    Calls Tryz.prog 19 #[.agg #[.int .i64 i, .int .i64 k, .slice pr nr cr, .slice pf nf cf, .slice pe ne ce], .agg #[.int .i64 i', .int .i64 k', .slice pr' nr' cr', .slice pf' nf' cf', .slice pe' ne' ce']] w fun en w' => en = .returned (.bool (decide (((i, k, r, f, e) : Int × Int × List Int × List Int × List Int) = (i', k', r', f', e')))) ∧ Out 0 0 w w' := by
  obtain ⟨b1, b2⟩ := two_bl w #[.int .i64 i, .int .i64 k, .slice pr nr cr, .slice pf nf cf, .slice pe ne ce] #[.int .i64 i', .int .i64 k', .slice pr' nr' cr', .slice pf' nf' cf', .slice pe' ne' ce'] 37 37
  have o0 := ((Out.refl 0 0 w).alloc (.cells #[.int .i64 i, .int .i64 k, .slice pr nr cr, .slice pf nf cf, .slice pe ne ce] 37)).alloc (.cells #[.int .i64 i', .int .i64 k', .slice pr' nr' cr', .slice pf' nf' cf', .slice pe' ne' ce'] 37)
  obtain ⟨V, hV⟩ : ∃ V, (w.alloc (.cells #[.int .i64 i, .int .i64 k, .slice pr nr cr, .slice pf nf cf, .slice pe ne ce] 37)).alloc (.cells #[.int .i64 i', .int .i64 k', .slice pr' nr' cr', .slice pf' nf' cf', .slice pe' ne' ce'] 37) = V := ⟨_, rfl⟩
  obtain ⟨z, hz⟩ : ∃ z, w.heap.size = z := ⟨_, rfl⟩
  rw [hV] at b1 b2 o0
  rw [hz] at b1 b2
  rw [nd_dec]
  have HI : Hid (∀ W, Out 0 0 V W → IsIn W B pr r ∧ IsIn W B pf f ∧ IsIn W B pe e ∧ IsIn W C pr' r' ∧ IsIn W C pf' f' ∧ IsIn W C pe' e' ∧ Out 0 0 w W) := hid_mk fun W o => ⟨h1.quiet (o0.trans o), h2.quiet (o0.trans o), h3.quiet (o0.trans o), h1'.quiet (o0.trans o), h2'.quiet (o0.trans o), h3'.quiet (o0.trans o), o0.trans o⟩
  have HL := hid_mk (And.intro l1 (And.intro l2 (And.intro l3 (And.intro l1' (And.intro l2' (And.intro l3' (And.intro hn1 (And.intro hn2 hn3))))))))
  have HB := hid_mk (And.intro b1 b2)
  have c0 := b1.cell (i := 0) rfl
  have c1 := b1.cell (i := 1) rfl
  have c2 := b1.cell (i := 2) rfl
  have c3 := b1.cell (i := 3) rfl
  have c4 := b1.cell (i := 4) rfl
  have d0 := b2.cell (i := 0) rfl
  have d1 := b2.cell (i := 1) rfl
  have d2 := b2.cell (i := 2) rfl
  have d3 := b2.cell (i := 3) rfl
  have d4 := b2.cell (i := 4) rfl
  have oV : Out 0 0 V V := Out.refl _ _ _
  obtain ⟨bb, hbb⟩ : ∃ bb, (i == i' && (k == k' && (decide (r = r') && (decide (f = f') && decide (e = e'))))) = bb := ⟨_, rfl⟩
  rw [hbb]
  have HBB := hid_mk hbb
  clear b1 b2 o0 h1 h2 h3 h1' h2' h3' l1 l2 l3 l1' l2' l3' hn1 hn2 hn3 hbb
  by_cases hi : i = i'
  · have q1 : (i != i') = false := by simpa using hi
    by_cases hk : k = k'
    · have q2 : (k != k') = false := by simpa using hk
      by_cases hr : nr = nr'
      · subst hr
        by_cases he : ne = ne'
        · subst he
          obtain ⟨x4, hx4⟩ : ∃ x, decide (f = f') = x := ⟨_, rfl⟩
          have HX4 := hid_mk hx4
          have HIK := hid_mk (And.intro hi hk)
          clear hi hk
          cases x4
          · have HF : Hid (bb = false) := hid_mk (by rw [← HBB.out, HX4.out]; simp)
            go_enter Tryz.func19, Tryz.ntmps19
            go_upto_region 1 with fail
            (try rw [hV]); (try rw [hz])
            clear hV hz
            go_wp2_with (go_at_call 18; refine (sameV_any pf pf' nf nf' cf cf' f f' HL.out.2.1 HL.out.2.2.2.2.1 (HI.out _ oV).2.1 (HI.out _ oV).2.2.2.2.1 HL.out.2.2.2.2.2.2.2.1).mono ?_; rintro en w1 ⟨rfl, o1⟩; replace oV := oV.trans o1; clear o1 c0 c1 c2 c3 c4 d0 d1 d2 d3 d4)
            go_ret
            exact ⟨by rw [HF.out]; rfl, (HI.out _ oV).2.2.2.2.2.2⟩
          · replace HBB : Hid ((decide (r = r') && decide (e = e')) = bb) := hid_mk (by rw [← HBB.out, HX4.out]; have := HIK.out; simp [this.1, this.2])
            go_enter Tryz.func19, Tryz.ntmps19
            go_upto_region 1 with fail
            (try rw [hV]); (try rw [hz])
            clear hV hz
            go_wp2_with (go_at_call 18; refine (sameV_any pf pf' nf nf' cf cf' f f' HL.out.2.1 HL.out.2.2.2.2.1 (HI.out _ oV).2.1 (HI.out _ oV).2.2.2.2.1 HL.out.2.2.2.2.2.2.2.1).mono ?_; rintro en w1 ⟨rfl, o1⟩; replace oV := oV.trans o1; clear o1 c0 c1 c2 c3 c4 d0 d1 d2 d3 d4)
            clear HX4
            go_loopw [5] (fun y wr => ∃ j : Nat, y = .int .i64 j ∧ j ≤ nr ∧ r.take (j * 1) = r'.take (j * 1) ∧ Out 0 0 V wr) (fun y _ => nr - (intOf y).toNat)
            case atStart => exact ⟨0, rfl, Nat.zero_le _, by simp, oV⟩
            case round =>
              obtain ⟨j, rfl, hjm, heq, ho⟩ := hrel
              have HE := hid_mk heq
              have HO := hid_mk ho
              have hnn : nr ≤ 200000 := HL.out.2.2.2.2.2.2.1
              have c2 := ho.cell (HB.out.1.cell (i := 2) rfl) (.inr (Nat.zero_le _))
              have d2 := ho.cell (HB.out.2.cell (i := 2) rfl) (.inr (Nat.zero_le _))
              clear heq ho
              by_cases hgo : j < nr
              · have g1 := lt_i hgo
                obtain ⟨m1, m2⟩ := lt_d hgo
                obtain ⟨x0, hx0⟩ := at_k (k := 0) HL.out.1 hgo (by decide)
                obtain ⟨y0, hy0⟩ := at_k (k := 0) HL.out.2.2.2.1 hgo (by decide)
                obtain ⟨g, off, rfl, hg, hc⟩ := (HI.out _ HO.out).1.at (by have := HL.out.1; omega)
                obtain ⟨g', off', rfl, hg', hc'⟩ := (HI.out _ HO.out).2.2.2.1.at (by have := HL.out.2.2.2.1; omega)
                have a0 : wr.cell? ⟨g, off + j, none⟩ = some (.int .i64 x0) := by have := hc _ _ hx0; simpa [Nat.add_assoc] using this
                have b0 : wr.cell? ⟨g', off' + j, none⟩ = some (.int .i64 y0) := by have := hc' _ _ hy0; simpa [Nat.add_assoc] using this
                have HX := hid_mk (And.intro hx0 hy0)
                clear hc hc' hx0 hy0
                by_cases hxy : x0 = y0
                · subst hxy
                  have hne : (x0 != x0) = false := by simp
                  go_wp2_with fail
                  go_region
                  go_wp2_with fail
                  go_roundw
                  case rel => exact ⟨j + 1, by go_num, hgo, take_s1 HE.out HX.out.1 HX.out.2, HO.out.drew⟩
                  case measure => simp [intOf]; omega
                · have HF : Hid (bb = false) := hid_mk (by
                    rw [← HBB.out]
                    have : decide (r = r') = false := by
                      simp only [decide_eq_false_iff_not]
                      intro ee
                      apply hxy
                      have z := HX.out
                      rw [ee] at z
                      have z0 := Option.some.inj ((z.1).symm.trans z.2)
                      exact z0
                    rw [this]; simp)
                  have hne : (x0 != y0) = true := by simpa using hxy
                  clear hxy
                  go_wp2_with fail
                  go_region
                  go_wp2_with fail
                  go_ret
                  exact ⟨by rw [HF.out]; rfl, (HI.out _ HO.out.drew).2.2.2.2.2.2⟩
              · obtain rfl : nr = j := by omega
                have m1 : decide ((nr : Int) < (nr : Int)) = false := by simp
                have HR : Hid (r = r') := hid_mk (all_s HE.out HL.out.1 HL.out.2.2.2.1)
                clear hgo hjm HE
                go_wp2_with fail
                have HRr := HR
                have oV := HO.out
                clear HR HO c2 d2 hnn m1
                go_loopw [6] (fun y wr => ∃ j : Nat, y = .int .i64 j ∧ j ≤ ne ∧ e.take (j * 4) = e'.take (j * 4) ∧ Out 0 0 V wr) (fun y _ => ne - (intOf y).toNat)
                case atStart => exact ⟨0, rfl, Nat.zero_le _, by simp, oV⟩
                case round =>
                  obtain ⟨j, rfl, hjm, heq, ho⟩ := hrel
                  have HE := hid_mk heq
                  have HO := hid_mk ho
                  have hnn : ne ≤ 200000 := HL.out.2.2.2.2.2.2.2.2
                  have c4 := ho.cell (HB.out.1.cell (i := 4) rfl) (.inr (Nat.zero_le _))
                  have d4 := ho.cell (HB.out.2.cell (i := 4) rfl) (.inr (Nat.zero_le _))
                  clear heq ho
                  by_cases hgo : j < ne
                  · have g1 := lt_i hgo
                    obtain ⟨m1, m2⟩ := lt_d hgo
                    obtain ⟨x0, hx0⟩ := at_k (k := 0) HL.out.2.2.1 hgo (by decide)
                    obtain ⟨x1, hx1⟩ := at_k (k := 1) HL.out.2.2.1 hgo (by decide)
                    obtain ⟨x2, hx2⟩ := at_k (k := 2) HL.out.2.2.1 hgo (by decide)
                    obtain ⟨x3, hx3⟩ := at_k (k := 3) HL.out.2.2.1 hgo (by decide)
                    obtain ⟨y0, hy0⟩ := at_k (k := 0) HL.out.2.2.2.2.2.1 hgo (by decide)
                    obtain ⟨y1, hy1⟩ := at_k (k := 1) HL.out.2.2.2.2.2.1 hgo (by decide)
                    obtain ⟨y2, hy2⟩ := at_k (k := 2) HL.out.2.2.2.2.2.1 hgo (by decide)
                    obtain ⟨y3, hy3⟩ := at_k (k := 3) HL.out.2.2.2.2.2.1 hgo (by decide)
                    obtain ⟨g, off, rfl, hg, hc⟩ := (HI.out _ HO.out).2.2.1.at (by have := HL.out.2.2.1; omega)
                    obtain ⟨g', off', rfl, hg', hc'⟩ := (HI.out _ HO.out).2.2.2.2.2.1.at (by have := HL.out.2.2.2.2.2.1; omega)
                    have a0 : wr.cell? ⟨g, off + j * 4, none⟩ = some (.int .i64 x0) := by have := hc _ _ hx0; simpa [Nat.add_assoc] using this
                    have b0 : wr.cell? ⟨g', off' + j * 4, none⟩ = some (.int .i64 y0) := by have := hc' _ _ hy0; simpa [Nat.add_assoc] using this
                    have a1 : wr.cell? ⟨g, off + j * 4 + 1, none⟩ = some (.int .i64 x1) := by have := hc _ _ hx1; simpa [Nat.add_assoc] using this
                    have b1 : wr.cell? ⟨g', off' + j * 4 + 1, none⟩ = some (.int .i64 y1) := by have := hc' _ _ hy1; simpa [Nat.add_assoc] using this
                    have a2 : wr.cell? ⟨g, off + j * 4 + 2, none⟩ = some (.int .i64 x2) := by have := hc _ _ hx2; simpa [Nat.add_assoc] using this
                    have b2 : wr.cell? ⟨g', off' + j * 4 + 2, none⟩ = some (.int .i64 y2) := by have := hc' _ _ hy2; simpa [Nat.add_assoc] using this
                    have a3 : wr.cell? ⟨g, off + j * 4 + 3, none⟩ = some (.int .i64 x3) := by have := hc _ _ hx3; simpa [Nat.add_assoc] using this
                    have b3 : wr.cell? ⟨g', off' + j * 4 + 3, none⟩ = some (.int .i64 y3) := by have := hc' _ _ hy3; simpa [Nat.add_assoc] using this
                    have HX := hid_mk (And.intro hx0 (And.intro hx1 (And.intro hx2 (And.intro hx3 (And.intro hy0 (And.intro hy1 (And.intro hy2 hy3)))))))
                    clear hc hc' hx0 hy0 hx1 hy1 hx2 hy2 hx3 hy3
                    by_cases hxy : x0 = y0 ∧ x1 = y1 ∧ x2 = y2 ∧ x3 = y3
                    · obtain ⟨rfl, rfl, rfl, rfl⟩ := hxy
                      have hne := ne_ent x0 x1 x2 x3 x0 x1 x2 x3
                      have hnb : (!(x0 == x0 && x1 == x1 && x2 == x2 && x3 == x3)) = false := by simp
                      simp only [hnb] at hne
                      clear hnb
                      go_wp2_with fail
                      go_region
                      go_wp2_with fail
                      go_roundw
                      case rel => exact ⟨j + 1, by go_num, hgo, take_s4 HE.out HX.out.1 HX.out.2.1 HX.out.2.2.1 HX.out.2.2.2.1 HX.out.2.2.2.2.1 HX.out.2.2.2.2.2.1 HX.out.2.2.2.2.2.2.1 HX.out.2.2.2.2.2.2.2, HO.out.drew⟩
                      case measure => simp [intOf]; omega
                    · have HF : Hid (bb = false) := hid_mk (by
                        rw [← HBB.out]
                        have : decide (e = e') = false := by
                          simp only [decide_eq_false_iff_not]
                          intro ee
                          apply hxy
                          have z := HX.out
                          rw [ee] at z
                          have z0 := Option.some.inj ((z.1).symm.trans z.2.2.2.2.1)
                          have z1 := Option.some.inj ((z.2.1).symm.trans z.2.2.2.2.2.1)
                          have z2 := Option.some.inj ((z.2.2.1).symm.trans z.2.2.2.2.2.2.1)
                          have z3 := Option.some.inj ((z.2.2.2.1).symm.trans z.2.2.2.2.2.2.2)
                          exact ⟨z0, z1, z2, z3⟩
                        rw [this]; simp)
                      have hne := ne_ent x0 x1 x2 x3 y0 y1 y2 y3
                      have hnb : (!(x0 == y0 && x1 == y1 && x2 == y2 && x3 == y3)) = true := by simp only [Bool.not_eq_true', Bool.and_eq_false_iff, beq_eq_false_iff_ne]; omega
                      simp only [hnb] at hne
                      clear hnb
                      clear hxy
                      go_wp2_with fail
                      go_region
                      go_wp2_with fail
                      go_ret
                      exact ⟨by rw [HF.out]; rfl, (HI.out _ HO.out.drew).2.2.2.2.2.2⟩
                  · obtain rfl : ne = j := by omega
                    have m1 : decide ((ne : Int) < (ne : Int)) = false := by simp
                    have HR : Hid (e = e') := hid_mk (all_s HE.out HL.out.2.2.1 HL.out.2.2.2.2.2.1)
                    clear hgo hjm HE
                    go_wp2_with fail
                    go_ret
                    exact ⟨by rw [← HBB.out, HRr.out, HR.out]; simp, (HI.out _ HO.out).2.2.2.2.2.2⟩
        · have q4 : ((ne : Int) != (ne' : Int)) = true := by simp; omega
          have HF : Hid (bb = false) := hid_mk (by rw [← HBB.out, len_nm (s := 4) HL.out.2.2.1 HL.out.2.2.2.2.2.1 (by decide) he]; simp)
          clear he hi hk
          go_enter Tryz.func19, Tryz.ntmps19
          go_upto_region 1 with fail
          (try rw [hV]); (try rw [hz])
          clear hV hz
          go_wp2_with fail
          go_ret
          exact ⟨by rw [HF.out]; rfl, (HI.out _ oV).2.2.2.2.2.2⟩
      · have q3 : ((nr : Int) != (nr' : Int)) = true := by simp; omega
        have HF : Hid (bb = false) := hid_mk (by rw [← HBB.out, len_nm (s := 1) HL.out.1 HL.out.2.2.2.1 (by decide) hr]; simp)
        clear hr hi hk
        go_enter Tryz.func19, Tryz.ntmps19
        go_upto_region 1 with fail
        (try rw [hV]); (try rw [hz])
        clear hV hz
        go_wp2_with fail
        go_ret
        exact ⟨by rw [HF.out]; rfl, (HI.out _ oV).2.2.2.2.2.2⟩
    · have q2 : (k != k') = true := by simpa using hk
      have HF : Hid (bb = false) := hid_mk (by rw [← HBB.out]; simp [hk])
      clear hi hk
      go_enter Tryz.func19, Tryz.ntmps19
      go_upto_region 1 with fail
      (try rw [hV]); (try rw [hz])
      clear hV hz
      go_wp2_with fail
      go_ret
      exact ⟨by rw [HF.out]; rfl, (HI.out _ oV).2.2.2.2.2.2⟩
  · have q1 : (i != i') = true := by simpa using hi
    have HF : Hid (bb = false) := hid_mk (by rw [← HBB.out]; simp [hi])
    clear hi
    go_enter Tryz.func19, Tryz.ntmps19
    go_upto_region 1 with fail
    (try rw [hV]); (try rw [hz])
    clear hV hz
    go_wp2_with fail
    go_ret
    exact ⟨by rw [HF.out]; rfl, (HI.out _ oV).2.2.2.2.2.2⟩
end Go.Proofs.YtghlbdmldahnlaaGreatDoor
