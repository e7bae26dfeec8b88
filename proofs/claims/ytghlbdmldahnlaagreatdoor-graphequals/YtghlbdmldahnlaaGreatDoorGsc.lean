/- slices.EqualFunc of nodes, graph.Equal -/
import Derived.Test.YtghlbdmldahnlaaGreatDoorGsb
namespace Go.Proofs.YtghlbdmldahnlaaGreatDoor
open Go.RowKit
set_option linter.unusedVariables false
set_option linter.unusedSimpArgs false

theorem take_n {l m : List (Int × Int × List Int × List Int × List Int)} {i : Nat} {a : Int × Int × List Int × List Int × List Int} (h : l.take i = m.take i) (h0 : l[i]? = some a) (k0 : m[i]? = some a) : l.take (i + 1) = m.take (i + 1) := by
  rw [List.take_add_one, List.take_add_one, h, h0, k0]
theorem nd_ne {l m : List (Int × Int × List Int × List Int × List Int)} {i : Nat} {a b : Int × Int × List Int × List Int × List Int} (h0 : l[i]? = some a) (k0 : m[i]? = some b) (hab : a ≠ b) : decide (l = m) = false := by
  simp only [decide_eq_false_iff_not]
  intro e
  rw [e, k0] at h0
  exact hab (Option.some.inj h0).symm
/-- no list of a node is long -/
def Sn (ns : List (Int × Int × List Int × List Int × List Int)) : Prop := ns.length ≤ 200000 ∧ ∀ n ∈ ns, n.2.2.1.length ≤ 200000 ∧ n.2.2.2.1.length ≤ 200000 ∧ n.2.2.2.2.length ≤ 200000
set_option maxRecDepth 100000 in
set_option maxHeartbeats 4000000 in
theorem equalFunc_any {w : World} {B C : Nat} (p q : Option Addr) (n m c d : Nat) (ns ms : List (Int × Int × List Int × List Int × List Int)) (hl : ns.length = n) (hm : ms.length = m) (hp : NdIn w B p ns) (hq : NdIn w C q ms) (hs : Sn ns) :
    Calls Tryz.prog 15 #[.slice p n c, .slice q m d, .func (.func 16) #[] #[]] w fun e w' => e = .returned (.bool (decide (ns = ms))) ∧ Out 0 0 w w' := by
  obtain ⟨bb, hbb⟩ : ∃ bb, decide (ns = ms) = bb := ⟨_, rfl⟩
  rw [hbb]
  have HBB := hid_mk hbb
  clear hbb
  by_cases hnm : n = m
  · subst hnm
    have hn : n ≤ 200000 := by have := hs.1; omega
    have HH := hid_mk (And.intro hl (And.intro hm (And.intro hp (And.intro hq hs))))
    clear hl hm hp hq hs
    go_enter Tryz.func15, Tryz.ntmps15
    go_wp2_with fail
    go_loopw [17] (fun z wr => ∃ i : Nat, z = .int .i64 i ∧ i ≤ n ∧ ns.take i = ms.take i ∧ Out 0 0 w wr) (fun z _ => n - (intOf z).toNat)
    case atStart => exact ⟨0, rfl, Nat.zero_le _, by simp, Out.refl _ _ _⟩
    case round =>
      obtain ⟨i, rfl, him, heq, ho⟩ := hrel
      have HE := hid_mk heq
      have HO := hid_mk ho
      clear heq ho
      by_cases hgo : i < n
      · have g1 := lt_i hgo
        obtain ⟨l1, l2⟩ := lt_d hgo
        obtain ⟨⟨a, k, r, f, e⟩, ha⟩ : ∃ x, ns[i]? = some x := ⟨_, List.getElem?_eq_getElem (by have := HH.out.1; omega)⟩
        obtain ⟨⟨a', k', r', f', e'⟩, hb⟩ : ∃ x, ms[i]? = some x := ⟨_, List.getElem?_eq_getElem (by have := HH.out.2.1; omega)⟩
        obtain ⟨g, off, rfl, hg, hc⟩ := (HH.out.2.2.1.quiet HO.out).at ha
        obtain ⟨g', off', rfl, hg', hc'⟩ := (HH.out.2.2.2.1.quiet HO.out).at hb
        obtain ⟨pr, nr, cr, pf, nf, cf, pe, ne, ce, c0, c1, c2, c3, c4, q1, q2, q3, q4, q5, q6⟩ := hc
        obtain ⟨pr', nr', cr', pf', nf', cf', pe', ne', ce', d0, d1, d2, d3, d4, t1, t2, t3, t4, t5, t6⟩ := hc'
        have hsm := HH.out.2.2.2.2.2 _ (List.mem_of_getElem? ha)
        simp only [] at c0 c1 c2 c3 c4 q1 q2 q3 q4 q5 q6 d0 d1 d2 d3 d4 t1 t2 t3 t4 t5 t6 hsm
        obtain ⟨x, hx⟩ : ∃ x, decide (((a, k, r, f, e) : Int × Int × List Int × List Int × List Int) = (a', k', r', f', e')) = x := ⟨_, rfl⟩
        have HQ : Hid (∀ W, Out 0 0 wr W → Calls Tryz.prog 16 #[.agg #[.int .i64 a, .int .i64 k, .slice pr nr cr, .slice pf nf cf, .slice pe ne ce], .agg #[.int .i64 a', .int .i64 k', .slice pr' nr' cr', .slice pf' nf' cf', .slice pe' ne' ce']] W fun en w' => en = .returned (.bool x) ∧ Out 0 0 W w') :=
          hid_mk fun W o => by
            have := sameNode_any a k a' k' pr pf pe pr' pf' pe' nr cr nf cf ne ce nr' cr' nf' cf' ne' ce' r f e r' f' e' q1 q2 q3 t1 t2 t3 (q4.quiet o) (q5.quiet o) (q6.quiet o) (t4.quiet o) (t5.quiet o) (t6.quiet o) (by omega) (by omega) (by omega)
            rw [hx] at this
            exact this
        have HX := hid_mk (And.intro ha hb)
        have u1 := cell_lt c0
        have u2 := cell_lt d0
        clear ha hb q1 q2 q3 q4 q5 q6 t1 t2 t3 t4 t5 t6 hsm
        have HD := hid_mk hx
        clear hx
        cases x
        · go_wp2_with (go_at_call 16; refine (HQ.out _ (((Out.refl 0 0 wr).alloc _).alloc _)).mono ?_; rintro en w1 ⟨rfl, o1⟩)
          go_ret
          exact ⟨by rw [← HBB.out, nd_ne HX.out.1 HX.out.2 (by simpa using HD.out)]; rfl, HO.out.trans ((((Out.refl 0 0 wr).alloc _).alloc _).trans o1)⟩
        · go_wp2_with (go_at_call 16; refine (HQ.out _ (((Out.refl 0 0 wr).alloc _).alloc _)).mono ?_; rintro en w1 ⟨rfl, o1⟩)
          go_roundw
          case rel => exact ⟨i + 1, by go_num, hgo, take_n HE.out HX.out.1 (by have := of_decide_eq_true HD.out; rw [this]; exact HX.out.2), HO.out.trans ((((Out.refl 0 0 wr).alloc _).alloc _).trans o1)⟩
          case measure => simp [intOf]; omega
      · obtain rfl : n = i := by omega
        have l1 : decide ((n : Int) < (n : Int)) = false := by simp
        have HNE : Hid (decide (ns = ms) = true) := hid_mk (by
          simp only [decide_eq_true_eq]
          have h1 := HE.out
          rw [List.take_of_length_le (by have := HH.out.1; omega), List.take_of_length_le (by have := HH.out.2.1; omega)] at h1
          exact h1)
        go_wp2_with fail
        go_ret
        exact ⟨by rw [← HBB.out, HNE.out]; rfl, HO.out⟩
  · have hne : ((n : Int) != (m : Int)) = true := by simp; omega
    have HNE : Hid (decide (ns = ms) = false) := hid_mk (by
      simp only [decide_eq_false_iff_not]
      intro e
      subst e
      apply hnm
      omega)
    clear hl hm hp hq hs
    go_enter Tryz.func15, Tryz.ntmps15
    go_wp2_with fail
    go_ret
    exact ⟨by rw [← HBB.out, HNE.out]; rfl, Out.refl _ _ _⟩
/-- a graph's two lists -/
def GrIn (w : World) (B : Nat) (na ra : Option Addr) (nn nr : Nat) (ns : List (Int × Int × List Int × List Int × List Int)) (rs : List Int) : Prop := ns.length = nn ∧ rs.length = nr * 2 ∧ NdIn w B na ns ∧ IsIn w B ra rs ∧ Sn ns ∧ rs.length ≤ 200000
theorem GrIn.quiet {w w' : World} {B : Nat} {na ra : Option Addr} {nn nr : Nat} {ns : List (Int × Int × List Int × List Int × List Int)} {rs : List Int} (h : GrIn w B na ra nn nr ns rs) (x : Out 0 0 w w') : GrIn w' B na ra nn nr ns rs :=
  ⟨h.1, h.2.1, h.2.2.1.quiet x, h.2.2.2.1.quiet x, h.2.2.2.2⟩
theorem GrIn.fx {S : Nat → Prop} {w w' : World} {B : Nat} {na ra : Option Addr} {nn nr : Nat} {ns : List (Int × Int × List Int × List Int × List Int)} {rs : List Int} (h : GrIn w B na ra nn nr ns rs) (x : Fx S w w') (hS : ∀ k, k < B → ¬ S k) : GrIn w' B na ra nn nr ns rs :=
  ⟨h.1, h.2.1, h.2.2.1.fx x hS, h.2.2.2.1.fx x hS, h.2.2.2.2⟩
set_option maxRecDepth 100000 in
set_option maxHeartbeats 4000000 in
theorem equal_any {w : World} {B C : Nat} (na ra na' ra' : Option Addr) (nn nr cn cr nn' nr' cn' cr' : Nat) (ns ms : List (Int × Int × List Int × List Int × List Int)) (rs ss : List Int) (h : GrIn w B na ra nn nr ns rs) (h' : GrIn w C na' ra' nn' nr' ms ss) :
    Calls Tryz.prog 7 #[.agg #[.slice na nn cn, .slice ra nr cr], .agg #[.slice na' nn' cn', .slice ra' nr' cr']] w fun e w' => e = .returned (.bool (decide (ns = ms) && decide (rs = ss))) ∧ Out 0 0 w w' := by
  obtain ⟨b1, b2⟩ := two_bl w #[.slice na nn cn, .slice ra nr cr] #[.slice na' nn' cn', .slice ra' nr' cr'] 25 25
  have o0 := ((Out.refl 0 0 w).alloc (.cells #[.slice na nn cn, .slice ra nr cr] 25)).alloc (.cells #[.slice na' nn' cn', .slice ra' nr' cr'] 25)
  obtain ⟨V, hV⟩ : ∃ V, (w.alloc (.cells #[.slice na nn cn, .slice ra nr cr] 25)).alloc (.cells #[.slice na' nn' cn', .slice ra' nr' cr'] 25) = V := ⟨_, rfl⟩
  obtain ⟨z, hz⟩ : ∃ z, w.heap.size = z := ⟨_, rfl⟩
  rw [hV] at b1 b2 o0
  rw [hz] at b1 b2
  have H := hid_mk (And.intro (h.quiet o0) (And.intro (h'.quiet o0) o0))
  have c0 := b1.cell (i := 0) rfl
  have c1 := b1.cell (i := 1) rfl
  have d0 := b2.cell (i := 0) rfl
  have d1 := b2.cell (i := 1) rfl
  obtain ⟨x1, hx1⟩ : ∃ x, decide (ns = ms) = x := ⟨_, rfl⟩
  obtain ⟨x2, hx2⟩ : ∃ x, decide (rs = ss) = x := ⟨_, rfl⟩
  rw [hx1, hx2]
  have oV : Out 0 0 V V := Out.refl _ _ _
  clear b1 b2 o0 h h'
  cases x1
  · go_enter Tryz.func7, Tryz.ntmps7
    go_upto_region 1 with fail
    (try rw [hV]); (try rw [hz])
    clear hV hz
    go_wp2_with (go_at_call 15; refine (equalFunc_any na na' nn nn' cn cn' ns ms H.out.1.1 H.out.2.1.1 H.out.1.2.2.1 H.out.2.1.2.2.1 H.out.1.2.2.2.2.1).mono ?_; rintro en w1 ⟨rfl, o1⟩)
    go_ret
    exact ⟨by simp, H.out.2.2.trans o1⟩
  · go_enter Tryz.func7, Tryz.ntmps7
    go_upto_region 1 with fail
    (try rw [hV]); (try rw [hz])
    clear hV hz
    go_wp2_with (first
      | (go_at_call 15; refine (equalFunc_any na na' nn nn' cn cn' ns ms H.out.1.1 H.out.2.1.1 H.out.1.2.2.1 H.out.2.1.2.2.1 H.out.1.2.2.2.2.1).mono ?_; rintro en w1 ⟨rfl, o1⟩; replace c1 := o1.cell c1 (.inr (Nat.zero_le _)); replace d1 := o1.cell d1 (.inr (Nat.zero_le _)); replace oV := oV.trans o1; clear c0 d0 o1)
      | (go_at_call 17; refine (eqV_any ra ra' nr nr' cr cr' rs ss H.out.1.2.1 H.out.2.1.2.1 (H.out.1.2.2.2.1.quiet oV) (H.out.2.1.2.2.2.1.quiet oV) (by have := H.out.1; have := this.2.1; have := H.out.1.2.2.2.2.2; omega)).mono ?_; rintro en w1 ⟨rfl, o1⟩; replace oV := oV.trans o1; clear o1))
    go_ret
    exact ⟨by cases x2 <;> rfl, H.out.2.2.trans oV⟩
end Go.Proofs.YtghlbdmldahnlaaGreatDoor
