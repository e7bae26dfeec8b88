/- graph.sameNode, slices.EqualFunc of nodes, graph.Equal -/
import Derived.Test.YtghlbdmldahnlaaGreatDoorGsa
namespace Go.Proofs.YtghlbdmldahnlaaGreatDoor
open Go.RowKit
set_option linter.unusedVariables false
set_option linter.unusedSimpArgs false

theorem nd_eq {a b c d : Int} {r r' f f' e e' : List Int} (h1 : a = b) (h2 : c = d) (h3 : r = r') (h4 : f = f') (h5 : e = e') : ((a, c, r, f, e) : Int × Int × List Int × List Int × List Int) = (b, d, r', f', e') := by rw [h1, h2, h3, h4, h5]
theorem nd_dec {a b c d : Int} {r r' f f' e e' : List Int} : decide (((a, c, r, f, e) : Int × Int × List Int × List Int × List Int) = (b, d, r', f', e')) = (a == b && (c == d && (decide (r = r') && (decide (f = f') && decide (e = e'))))) := by
  rw [Bool.eq_iff_iff]
  simp
theorem two_bl (w : World) (xs ys : Array Value) (T U : TypeId) : Bl ((w.alloc (.cells xs T)).alloc (.cells ys U)) w.heap.size xs T ∧ Bl ((w.alloc (.cells xs T)).alloc (.cells ys U)) (w.heap.size + 1) ys U := by
  refine ⟨(Bl.new w xs T).alloc _, ?_⟩
  have := Bl.new (w.alloc (.cells xs T)) ys U
  rwa [size_alloc] at this
set_option maxRecDepth 100000 in
set_option maxHeartbeats 4000000 in
theorem sameNode_any {w : World} {B C : Nat} (i k i' k' : Int) (pr pf pe pr' pf' pe' : Option Addr) (nr cr nf cf ne ce nr' cr' nf' cf' ne' ce' : Nat) (r f e r' f' e' : List Int) (l1 : r.length = nr * 1) (l2 : f.length = nf * 2) (l3 : e.length = ne * 4) (l1' : r'.length = nr' * 1) (l2' : f'.length = nf' * 2) (l3' : e'.length = ne' * 4)
    (h1 : IsIn w B pr r) (h2 : IsIn w B pf f) (h3 : IsIn w B pe e) (h1' : IsIn w C pr' r') (h2' : IsIn w C pf' f') (h3' : IsIn w C pe' e') (hn1 : nr ≤ 200000) (hn2 : nf ≤ 200000) (hn3 : ne ≤ 200000) :
    Calls Tryz.prog 16 #[.agg #[.int .i64 i, .int .i64 k, .slice pr nr cr, .slice pf nf cf, .slice pe ne ce], .agg #[.int .i64 i', .int .i64 k', .slice pr' nr' cr', .slice pf' nf' cf', .slice pe' ne' ce']] w fun en w' => en = .returned (.bool (decide (((i, k, r, f, e) : Int × Int × List Int × List Int × List Int) = (i', k', r', f', e')))) ∧ Out 0 0 w w' := by
  obtain ⟨b1, b2⟩ := two_bl w #[.int .i64 i, .int .i64 k, .slice pr nr cr, .slice pf nf cf, .slice pe ne ce] #[.int .i64 i', .int .i64 k', .slice pr' nr' cr', .slice pf' nf' cf', .slice pe' ne' ce'] 37 37
  have o0 := ((Out.refl 0 0 w).alloc (.cells #[.int .i64 i, .int .i64 k, .slice pr nr cr, .slice pf nf cf, .slice pe ne ce] 37)).alloc (.cells #[.int .i64 i', .int .i64 k', .slice pr' nr' cr', .slice pf' nf' cf', .slice pe' ne' ce'] 37)
  obtain ⟨V, hV⟩ : ∃ V, (w.alloc (.cells #[.int .i64 i, .int .i64 k, .slice pr nr cr, .slice pf nf cf, .slice pe ne ce] 37)).alloc (.cells #[.int .i64 i', .int .i64 k', .slice pr' nr' cr', .slice pf' nf' cf', .slice pe' ne' ce'] 37) = V := ⟨_, rfl⟩
  obtain ⟨z, hz⟩ : ∃ z, w.heap.size = z := ⟨_, rfl⟩
  rw [hV] at b1 b2 o0
  rw [hz] at b1 b2
  rw [nd_dec]
  have HI : Hid (∀ W, Out 0 0 V W → IsIn W B pr r ∧ IsIn W B pf f ∧ IsIn W B pe e ∧ IsIn W C pr' r' ∧ IsIn W C pf' f' ∧ IsIn W C pe' e' ∧ Out 0 0 w W) := hid_mk fun W o => ⟨h1.quiet (o0.trans o), h2.quiet (o0.trans o), h3.quiet (o0.trans o), h1'.quiet (o0.trans o), h2'.quiet (o0.trans o), h3'.quiet (o0.trans o), o0.trans o⟩
  have HL := hid_mk (And.intro l1 (And.intro l2 (And.intro l3 (And.intro l1' (And.intro l2' (And.intro l3' (And.intro hn1 (And.intro hn2 hn3))))))))
  have c0 := b1.cell (i := 0) rfl
  have c1 := b1.cell (i := 1) rfl
  have c2 := b1.cell (i := 2) rfl
  have c3 := b1.cell (i := 3) rfl
  have c4 := b1.cell (i := 4) rfl
  have d0 := b2.cell (i := 0) rfl
  have d1 := b2.cell (i := 1) rfl
  have d2 := b2.cell (i := 2) rfl
  have d3 := b2.cell (i := 3) rfl
  have d4 := b2.cell (i := 4) rfl
  have oV : Out 0 0 V V := Out.refl _ _ _
  obtain ⟨x1, hx1⟩ : ∃ x, (i == i') = x := ⟨_, rfl⟩
  obtain ⟨x2, hx2⟩ : ∃ x, (k == k') = x := ⟨_, rfl⟩
  obtain ⟨x3, hx3⟩ : ∃ x, decide (r = r') = x := ⟨_, rfl⟩
  obtain ⟨x4, hx4⟩ : ∃ x, decide (f = f') = x := ⟨_, rfl⟩
  obtain ⟨x5, hx5⟩ : ∃ x, decide (e = e') = x := ⟨_, rfl⟩
  rw [hx1, hx2, hx3, hx4, hx5]
  clear b1 b2 o0 h1 h2 h3 h1' h2' h3' l1 l2 l3 l1' l2' l3' hn1 hn2 hn3
  cases x1
  · go_enter Tryz.func16, Tryz.ntmps16
    go_upto_region 1 with fail
    (try rw [hV]); (try rw [hz])
    clear hV hz
    go_wp2_with (first
          | (go_at_call 27; refine (eqI_any pr pr' nr nr' cr cr' r r' HL.out.1 HL.out.2.2.2.1 (HI.out _ oV).1 (HI.out _ oV).2.2.2.1 HL.out.2.2.2.2.2.2.1).mono ?_; rintro en w1 ⟨rfl, o1⟩; replace oV := oV.trans o1; replace c3 := o1.cell c3 (.inr (Nat.zero_le _)); replace c4 := o1.cell c4 (.inr (Nat.zero_le _)); replace d3 := o1.cell d3 (.inr (Nat.zero_le _)); replace d4 := o1.cell d4 (.inr (Nat.zero_le _)); clear o1 c0 c1 c2 d0 d1 d2)
          | (go_at_call 17; refine (eqV_any pf pf' nf nf' cf cf' f f' HL.out.2.1 HL.out.2.2.2.2.1 (HI.out _ oV).2.1 (HI.out _ oV).2.2.2.2.1 HL.out.2.2.2.2.2.2.2.1).mono ?_; rintro en w1 ⟨rfl, o1⟩; replace oV := oV.trans o1; replace c3 := o1.cell c3 (.inr (Nat.zero_le _)); replace c4 := o1.cell c4 (.inr (Nat.zero_le _)); replace d3 := o1.cell d3 (.inr (Nat.zero_le _)); replace d4 := o1.cell d4 (.inr (Nat.zero_le _)); clear o1)
          | (go_at_call 28; refine (eqE_any pe pe' ne ne' ce ce' e e' HL.out.2.2.1 HL.out.2.2.2.2.2.1 (HI.out _ oV).2.2.1 (HI.out _ oV).2.2.2.2.2.1 HL.out.2.2.2.2.2.2.2.2).mono ?_; rintro en w1 ⟨rfl, o1⟩; replace oV := oV.trans o1; clear o1))
    go_ret
    exact ⟨rfl, (HI.out _ oV).2.2.2.2.2.2⟩
  · cases x2
    · go_enter Tryz.func16, Tryz.ntmps16
      go_upto_region 1 with fail
      (try rw [hV]); (try rw [hz])
      clear hV hz
      go_wp2_with (first
            | (go_at_call 27; refine (eqI_any pr pr' nr nr' cr cr' r r' HL.out.1 HL.out.2.2.2.1 (HI.out _ oV).1 (HI.out _ oV).2.2.2.1 HL.out.2.2.2.2.2.2.1).mono ?_; rintro en w1 ⟨rfl, o1⟩; replace oV := oV.trans o1; replace c3 := o1.cell c3 (.inr (Nat.zero_le _)); replace c4 := o1.cell c4 (.inr (Nat.zero_le _)); replace d3 := o1.cell d3 (.inr (Nat.zero_le _)); replace d4 := o1.cell d4 (.inr (Nat.zero_le _)); clear o1 c0 c1 c2 d0 d1 d2)
            | (go_at_call 17; refine (eqV_any pf pf' nf nf' cf cf' f f' HL.out.2.1 HL.out.2.2.2.2.1 (HI.out _ oV).2.1 (HI.out _ oV).2.2.2.2.1 HL.out.2.2.2.2.2.2.2.1).mono ?_; rintro en w1 ⟨rfl, o1⟩; replace oV := oV.trans o1; replace c3 := o1.cell c3 (.inr (Nat.zero_le _)); replace c4 := o1.cell c4 (.inr (Nat.zero_le _)); replace d3 := o1.cell d3 (.inr (Nat.zero_le _)); replace d4 := o1.cell d4 (.inr (Nat.zero_le _)); clear o1)
            | (go_at_call 28; refine (eqE_any pe pe' ne ne' ce ce' e e' HL.out.2.2.1 HL.out.2.2.2.2.2.1 (HI.out _ oV).2.2.1 (HI.out _ oV).2.2.2.2.2.1 HL.out.2.2.2.2.2.2.2.2).mono ?_; rintro en w1 ⟨rfl, o1⟩; replace oV := oV.trans o1; clear o1))
      go_ret
      exact ⟨rfl, (HI.out _ oV).2.2.2.2.2.2⟩
    · cases x3
      · go_enter Tryz.func16, Tryz.ntmps16
        go_upto_region 1 with fail
        (try rw [hV]); (try rw [hz])
        clear hV hz
        go_wp2_with (first
              | (go_at_call 27; refine (eqI_any pr pr' nr nr' cr cr' r r' HL.out.1 HL.out.2.2.2.1 (HI.out _ oV).1 (HI.out _ oV).2.2.2.1 HL.out.2.2.2.2.2.2.1).mono ?_; rintro en w1 ⟨rfl, o1⟩; replace oV := oV.trans o1; replace c3 := o1.cell c3 (.inr (Nat.zero_le _)); replace c4 := o1.cell c4 (.inr (Nat.zero_le _)); replace d3 := o1.cell d3 (.inr (Nat.zero_le _)); replace d4 := o1.cell d4 (.inr (Nat.zero_le _)); clear o1 c0 c1 c2 d0 d1 d2)
              | (go_at_call 17; refine (eqV_any pf pf' nf nf' cf cf' f f' HL.out.2.1 HL.out.2.2.2.2.1 (HI.out _ oV).2.1 (HI.out _ oV).2.2.2.2.1 HL.out.2.2.2.2.2.2.2.1).mono ?_; rintro en w1 ⟨rfl, o1⟩; replace oV := oV.trans o1; replace c3 := o1.cell c3 (.inr (Nat.zero_le _)); replace c4 := o1.cell c4 (.inr (Nat.zero_le _)); replace d3 := o1.cell d3 (.inr (Nat.zero_le _)); replace d4 := o1.cell d4 (.inr (Nat.zero_le _)); clear o1)
              | (go_at_call 28; refine (eqE_any pe pe' ne ne' ce ce' e e' HL.out.2.2.1 HL.out.2.2.2.2.2.1 (HI.out _ oV).2.2.1 (HI.out _ oV).2.2.2.2.2.1 HL.out.2.2.2.2.2.2.2.2).mono ?_; rintro en w1 ⟨rfl, o1⟩; replace oV := oV.trans o1; clear o1))
        go_ret
        exact ⟨rfl, (HI.out _ oV).2.2.2.2.2.2⟩
      · cases x4
        · go_enter Tryz.func16, Tryz.ntmps16
          go_upto_region 1 with fail
          (try rw [hV]); (try rw [hz])
          clear hV hz
          go_wp2_with (first
                | (go_at_call 27; refine (eqI_any pr pr' nr nr' cr cr' r r' HL.out.1 HL.out.2.2.2.1 (HI.out _ oV).1 (HI.out _ oV).2.2.2.1 HL.out.2.2.2.2.2.2.1).mono ?_; rintro en w1 ⟨rfl, o1⟩; replace oV := oV.trans o1; replace c3 := o1.cell c3 (.inr (Nat.zero_le _)); replace c4 := o1.cell c4 (.inr (Nat.zero_le _)); replace d3 := o1.cell d3 (.inr (Nat.zero_le _)); replace d4 := o1.cell d4 (.inr (Nat.zero_le _)); clear o1 c0 c1 c2 d0 d1 d2)
                | (go_at_call 17; refine (eqV_any pf pf' nf nf' cf cf' f f' HL.out.2.1 HL.out.2.2.2.2.1 (HI.out _ oV).2.1 (HI.out _ oV).2.2.2.2.1 HL.out.2.2.2.2.2.2.2.1).mono ?_; rintro en w1 ⟨rfl, o1⟩; replace oV := oV.trans o1; replace c3 := o1.cell c3 (.inr (Nat.zero_le _)); replace c4 := o1.cell c4 (.inr (Nat.zero_le _)); replace d3 := o1.cell d3 (.inr (Nat.zero_le _)); replace d4 := o1.cell d4 (.inr (Nat.zero_le _)); clear o1)
                | (go_at_call 28; refine (eqE_any pe pe' ne ne' ce ce' e e' HL.out.2.2.1 HL.out.2.2.2.2.2.1 (HI.out _ oV).2.2.1 (HI.out _ oV).2.2.2.2.2.1 HL.out.2.2.2.2.2.2.2.2).mono ?_; rintro en w1 ⟨rfl, o1⟩; replace oV := oV.trans o1; clear o1))
          go_ret
          exact ⟨rfl, (HI.out _ oV).2.2.2.2.2.2⟩
        · cases x5
          · go_enter Tryz.func16, Tryz.ntmps16
            go_upto_region 1 with fail
            (try rw [hV]); (try rw [hz])
            clear hV hz
            go_wp2_with (first
                  | (go_at_call 27; refine (eqI_any pr pr' nr nr' cr cr' r r' HL.out.1 HL.out.2.2.2.1 (HI.out _ oV).1 (HI.out _ oV).2.2.2.1 HL.out.2.2.2.2.2.2.1).mono ?_; rintro en w1 ⟨rfl, o1⟩; replace oV := oV.trans o1; replace c3 := o1.cell c3 (.inr (Nat.zero_le _)); replace c4 := o1.cell c4 (.inr (Nat.zero_le _)); replace d3 := o1.cell d3 (.inr (Nat.zero_le _)); replace d4 := o1.cell d4 (.inr (Nat.zero_le _)); clear o1 c0 c1 c2 d0 d1 d2)
                  | (go_at_call 17; refine (eqV_any pf pf' nf nf' cf cf' f f' HL.out.2.1 HL.out.2.2.2.2.1 (HI.out _ oV).2.1 (HI.out _ oV).2.2.2.2.1 HL.out.2.2.2.2.2.2.2.1).mono ?_; rintro en w1 ⟨rfl, o1⟩; replace oV := oV.trans o1; replace c3 := o1.cell c3 (.inr (Nat.zero_le _)); replace c4 := o1.cell c4 (.inr (Nat.zero_le _)); replace d3 := o1.cell d3 (.inr (Nat.zero_le _)); replace d4 := o1.cell d4 (.inr (Nat.zero_le _)); clear o1)
                  | (go_at_call 28; refine (eqE_any pe pe' ne ne' ce ce' e e' HL.out.2.2.1 HL.out.2.2.2.2.2.1 (HI.out _ oV).2.2.1 (HI.out _ oV).2.2.2.2.2.1 HL.out.2.2.2.2.2.2.2.2).mono ?_; rintro en w1 ⟨rfl, o1⟩; replace oV := oV.trans o1; clear o1))
            go_ret
            exact ⟨rfl, (HI.out _ oV).2.2.2.2.2.2⟩
          · go_enter Tryz.func16, Tryz.ntmps16
            go_upto_region 1 with fail
            (try rw [hV]); (try rw [hz])
            clear hV hz
            go_wp2_with (first
                  | (go_at_call 27; refine (eqI_any pr pr' nr nr' cr cr' r r' HL.out.1 HL.out.2.2.2.1 (HI.out _ oV).1 (HI.out _ oV).2.2.2.1 HL.out.2.2.2.2.2.2.1).mono ?_; rintro en w1 ⟨rfl, o1⟩; replace oV := oV.trans o1; replace c3 := o1.cell c3 (.inr (Nat.zero_le _)); replace c4 := o1.cell c4 (.inr (Nat.zero_le _)); replace d3 := o1.cell d3 (.inr (Nat.zero_le _)); replace d4 := o1.cell d4 (.inr (Nat.zero_le _)); clear o1 c0 c1 c2 d0 d1 d2)
                  | (go_at_call 17; refine (eqV_any pf pf' nf nf' cf cf' f f' HL.out.2.1 HL.out.2.2.2.2.1 (HI.out _ oV).2.1 (HI.out _ oV).2.2.2.2.1 HL.out.2.2.2.2.2.2.2.1).mono ?_; rintro en w1 ⟨rfl, o1⟩; replace oV := oV.trans o1; replace c3 := o1.cell c3 (.inr (Nat.zero_le _)); replace c4 := o1.cell c4 (.inr (Nat.zero_le _)); replace d3 := o1.cell d3 (.inr (Nat.zero_le _)); replace d4 := o1.cell d4 (.inr (Nat.zero_le _)); clear o1)
                  | (go_at_call 28; refine (eqE_any pe pe' ne ne' ce ce' e e' HL.out.2.2.1 HL.out.2.2.2.2.2.1 (HI.out _ oV).2.2.1 (HI.out _ oV).2.2.2.2.2.1 HL.out.2.2.2.2.2.2.2.2).mono ?_; rintro en w1 ⟨rfl, o1⟩; replace oV := oV.trans o1; clear o1))
            go_ret
            exact ⟨rfl, (HI.out _ oV).2.2.2.2.2.2⟩
end Go.Proofs.YtghlbdmldahnlaaGreatDoor
