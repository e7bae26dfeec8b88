/- the law of chapter 10: GraphEquals as a contract -/
import Derived.Test.YtghlbdmldahnlaaGreatDoorGsk
namespace Go.Proofs.YtghlbdmldahnlaaGreatDoor
open Go.RowKit
set_option linter.unusedVariables false
set_option linter.unusedSimpArgs false

/-- a graph among the arguments -/
def AG0 (w : World) (B : Nat) (na ra : Option Addr) (nn nr : Nat) (ns : List (Int × Int × List Int × List Int × List Int)) (rs : List Int) : Prop := ns.length = nn ∧ rs.length = nr * 2 ∧ NdIn w B na ns ∧ IsIn w B ra rs ∧ Lm ns rs
theorem AG0.quiet {w w' : World} {B : Nat} {na ra : Option Addr} {nn nr : Nat} {ns : List (Int × Int × List Int × List Int × List Int)} {rs : List Int} (h : AG0 w B na ra nn nr ns rs) (o : Out 0 0 w w') : AG0 w' B na ra nn nr ns rs := ⟨h.1, h.2.1, h.2.2.1.quiet o, h.2.2.2.1.quiet o, h.2.2.2.2⟩
theorem AG0.gr {w : World} {B : Nat} {na ra : Option Addr} {nn nr : Nat} {ns : List (Int × Int × List Int × List Int × List Int)} {rs : List Int} (h : AG0 w B na ra nn nr ns rs) (h2 : ns.length ≤ 20000 ∧ Sn ns ∧ rs.length ≤ 200000) : GrIn w B na ra nn nr ns rs := ⟨h.1, h.2.1, h.2.2.1, h.2.2.2.1, h2.2⟩
theorem q_ne (q : Bool) : (q != q) = false := by cases q <;> rfl
theorem q_eq (q : Bool) : (q == q) = true := by cases q <;> rfl
set_option maxRecDepth 100000 in
set_option maxHeartbeats 8000000 in
theorem equals_any {w : World} {B : Nat} (hT : Tab w) (hB : B ≤ w.heap.size) (na ra na' ra' : Option Addr) (nn nr cn cr nn' nr' cn' cr' : Nat) (ns ms : List (Int × Int × List Int × List Int × List Int)) (rs ss : List Int) (h : AG0 w B na ra nn nr ns rs) (h' : AG0 w B na' ra' nn' nr' ms ss) (at_ : Int) :
    Calls Tryz.prog 3 #[.agg #[.slice na nn cn, .slice ra nr cr], .agg #[.slice na' nn' cn', .slice ra' nr' cr'], .int .i64 at_] w fun e w' => e = .returned (.bool true) ∧ Out 0 0 w w' := by
  obtain ⟨b1, b2⟩ := two_bl w #[.slice na nn cn, .slice ra nr cr] #[.slice na' nn' cn', .slice ra' nr' cr'] 25 25
  have o0 := ((Out.refl 0 0 w).alloc (.cells #[.slice na nn cn, .slice ra nr cr] 25)).alloc (.cells #[.slice na' nn' cn', .slice ra' nr' cr'] 25)
  obtain ⟨V, hV⟩ : ∃ V, (w.alloc (.cells #[.slice na nn cn, .slice ra nr cr] 25)).alloc (.cells #[.slice na' nn' cn', .slice ra' nr' cr'] 25) = V := ⟨_, rfl⟩
  obtain ⟨z, hz⟩ : ∃ z, w.heap.size = z := ⟨_, rfl⟩
  rw [hV] at b1 b2 o0
  rw [hz] at b1 b2
  have HZ := hid_mk (And.intro hz b2.lt)
  have c0 := b1.cell (i := 0) rfl
  have c1 := b1.cell (i := 1) rfl
  have d0 := b2.cell (i := 0) rfl
  have d1 := b2.cell (i := 1) rfl
  have HA : Hid (∀ W, Out 0 0 w W → AG0 W B na ra nn nr ns rs ∧ AG0 W B na' ra' nn' nr' ms ss ∧ Tab W) := hid_mk fun W o => ⟨h.quiet o, h'.quiet o, hT.quiet o⟩
  have HB := hid_mk hB
  clear b1 b2 h h' hT hB
  go_enter Tryz.func3, Tryz.ntmps3
  go_upto_region 1 with fail
  (try rw [hV]); (try rw [hz])
  clear hV hz
  go_wp2_with fail
  go_at_call 4
  refine (alive_any (HA.out _ o0).2.2).mono ?_
  rintro en w1 ⟨rfl, o1⟩
  replace c0 := o1.cell c0 (.inr (Nat.zero_le _)); replace c1 := o1.cell c1 (.inr (Nat.zero_le _)); replace d0 := o1.cell d0 (.inr (Nat.zero_le _)); replace d1 := o1.cell d1 (.inr (Nat.zero_le _))
  have OV := hid_mk o1
  replace o0 := o0.trans o1
  clear o1
  go_wp2_with fail
  go_at_call 5
  refine (fits_any na ra nn nr cn cr ns rs (HA.out _ o0).1.1 (HA.out _ o0).1.2.1 (HA.out _ o0).1.2.2.1 (HA.out _ o0).1.2.2.2.2).mono ?_
  rintro en w2 ⟨⟨x, rfl, hx⟩, o1⟩
  replace c0 := o1.cell c0 (.inr (Nat.zero_le _)); replace c1 := o1.cell c1 (.inr (Nat.zero_le _)); replace d0 := o1.cell d0 (.inr (Nat.zero_le _)); replace d1 := o1.cell d1 (.inr (Nat.zero_le _))
  replace OV := hid_mk (OV.out.trans o1)
  replace o0 := o0.trans o1
  clear o1
  cases x
  · clear hx
    go_wp2_with fail
    go_at_call 4
    refine (alive_any (HA.out _ o0).2.2).mono ?_
    rintro en w3 ⟨rfl, o1⟩
    go_wp2_with fail
    go_ret
    exact ⟨rfl, o0.trans o1⟩
  · have HF := hid_mk (hx rfl)
    clear hx
    go_wp2_with fail
    go_at_call 5
    refine (fits_any na' ra' nn' nr' cn' cr' ms ss (HA.out _ o0).2.1.1 (HA.out _ o0).2.1.2.1 (HA.out _ o0).2.1.2.2.1 (HA.out _ o0).2.1.2.2.2.2).mono ?_
    rintro en w3 ⟨⟨x, rfl, hx⟩, o1⟩
    replace c0 := o1.cell c0 (.inr (Nat.zero_le _)); replace c1 := o1.cell c1 (.inr (Nat.zero_le _)); replace d0 := o1.cell d0 (.inr (Nat.zero_le _)); replace d1 := o1.cell d1 (.inr (Nat.zero_le _))
    replace OV := hid_mk (OV.out.trans o1)
    replace o0 := o0.trans o1
    clear o1
    cases x
    · clear hx
      go_wp2_with fail
      go_at_call 4
      refine (alive_any (HA.out _ o0).2.2).mono ?_
      rintro en w3 ⟨rfl, o1⟩
      go_wp2_with fail
      go_ret
      exact ⟨rfl, o0.trans o1⟩
    · have HF' := hid_mk (hx rfl)
      clear hx
      go_wp2_with fail
      go_at_call 6
      refine (lent_any (B := B) (Nat.le_trans HB.out o0.size) ns rs na ra nn nr cn cr ((HA.out _ o0).1.gr HF.out)).mono ?_
      rintro en w5 ⟨o1, gn, cg, vs, rv, rfl, hL⟩
      obtain ⟨gr, nq, cq, rfl, r1, -, hU, -⟩ := hL.gr HF.out.2.1 HF.out.2.2
      obtain rfl : nr = nq := by have := (HA.out _ o0).1.2.1; omega
      have hnn := (HA.out _ o0).1.1
      rw [hnn]
      rw [hnn] at hU
      obtain ⟨lo, hlo⟩ : ∃ lo, w3.heap.size = lo := ⟨_, rfl⟩
      rw [hlo] at hL hU
      have HLo : Hid (z + 1 < lo ∧ w.heap.size ≤ lo) := hid_mk ⟨by have := OV.out.size; have := HZ.out.2; omega, by have := o0.size; omega⟩
      replace c0 := o1.cell c0 (.inr (Nat.zero_le _)); replace c1 := o1.cell c1 (.inr (Nat.zero_le _)); replace d0 := o1.cell d0 (.inr (Nat.zero_le _)); replace d1 := o1.cell d1 (.inr (Nat.zero_le _))
      replace o0 := o0.trans o1
      clear o1 r1 hlo OV hnn
      go_upto_region 4 with fail
      obtain ⟨X, hX⟩ : ∃ X, w5.heap.size = X := ⟨_, rfl⟩
      have bX := Bl.new w5 #[.slice (some ⟨gn, 0, none⟩) nn cg, .slice (some ⟨gr, 0, none⟩) nr cq] 25
      have o1 : Out 0 0 w5 (w5.alloc (.cells #[.slice (some ⟨gn, 0, none⟩) nn cg, .slice (some ⟨gr, 0, none⟩) nr cq] 25)) := (Out.refl 0 0 w5).alloc _
      obtain ⟨w6, hw6⟩ : ∃ w6, w5.alloc (.cells #[.slice (some ⟨gn, 0, none⟩) nn cg, .slice (some ⟨gr, 0, none⟩) nr cq] 25) = w6 := ⟨_, rfl⟩
      rw [hX] at bX
      rw [hw6] at bX o1 ⊢
      (try rw [hX])
      clear hw6 hX
      replace c0 := o1.cell c0 (.inr (Nat.zero_le _)); replace c1 := o1.cell c1 (.inr (Nat.zero_le _)); replace d0 := o1.cell d0 (.inr (Nat.zero_le _)); replace d1 := o1.cell d1 (.inr (Nat.zero_le _))
      replace o0 := o0.trans o1
      replace hL := hL.quiet o1
      replace hU := hU.quiet o1
      have x0 := bX.cell (i := 0) rfl
      have x1 := bX.cell (i := 1) rfl
      have HX := hid_mk (And.intro bX (And.intro hL hU))
      clear bX hL hU o1
      go_wp2_with fail
      go_at_call 6
      refine (lent_any (B := B) (Nat.le_trans HB.out o0.size) ms ss na' ra' nn' nr' cn' cr' ((HA.out _ o0).2.1.gr HF'.out)).mono ?_
      rintro en w7 ⟨o1, hn, ch, vs', rv', rfl, hL'⟩
      obtain ⟨hr, nq, ck, rfl, r1, hG', -⟩ := hL'.gr HF'.out.2.1 HF'.out.2.2
      obtain rfl : nr' = nq := by have := (HA.out _ o0).2.1.2.1; omega
      have hnn := (HA.out _ o0).2.1.1
      rw [hnn]
      rw [hnn] at hG'
      replace c0 := o1.cell c0 (.inr (Nat.zero_le _)); replace c1 := o1.cell c1 (.inr (Nat.zero_le _)); replace d0 := o1.cell d0 (.inr (Nat.zero_le _)); replace d1 := o1.cell d1 (.inr (Nat.zero_le _))
      replace x0 := o1.cell x0 (.inr (Nat.zero_le _))
      replace x1 := o1.cell x1 (.inr (Nat.zero_le _))
      replace HX := hid_mk (And.intro (HX.out.1.kept o1 (.inr (Nat.zero_le _))) (And.intro (HX.out.2.1.quiet o1) (HX.out.2.2.quiet o1)))
      replace o0 := o0.trans o1
      clear o1 r1 hnn
      go_upto_region 5 with fail
      obtain ⟨Y, hY⟩ : ∃ Y, w7.heap.size = Y := ⟨_, rfl⟩
      have bY := Bl.new w7 #[.slice (some ⟨hn, 0, none⟩) nn' ch, .slice (some ⟨hr, 0, none⟩) nr' ck] 25
      have o1 : Out 0 0 w7 (w7.alloc (.cells #[.slice (some ⟨hn, 0, none⟩) nn' ch, .slice (some ⟨hr, 0, none⟩) nr' ck] 25)) := (Out.refl 0 0 w7).alloc _
      obtain ⟨U, hU⟩ : ∃ U, w7.alloc (.cells #[.slice (some ⟨hn, 0, none⟩) nn' ch, .slice (some ⟨hr, 0, none⟩) nr' ck] 25) = U := ⟨_, rfl⟩
      rw [hY] at bY
      rw [hU] at bY o1 ⊢
      (try rw [hY])
      clear hU hY
      replace c0 := o1.cell c0 (.inr (Nat.zero_le _)); replace c1 := o1.cell c1 (.inr (Nat.zero_le _)); replace d0 := o1.cell d0 (.inr (Nat.zero_le _)); replace d1 := o1.cell d1 (.inr (Nat.zero_le _))
      replace x0 := o1.cell x0 (.inr (Nat.zero_le _))
      replace x1 := o1.cell x1 (.inr (Nat.zero_le _))
      replace o0 := o0.trans o1
      replace HX := hid_mk (And.intro (HX.out.1.kept o1 (.inr (Nat.zero_le _))) (And.intro (HX.out.2.1.quiet o1) (HX.out.2.2.quiet o1)))
      replace hL' := hL'.quiet o1
      have y0 := bY.cell (i := 0) rfl
      have y1 := bY.cell (i := 1) rfl
      obtain ⟨gr2, nq, cq2, e2, r2, hG, -⟩ := HX.out.2.1.gr HF.out.2.1 HF.out.2.2
      cases e2
      rw [(HA.out _ o0).1.1] at hG
      have hA := (HA.out _ o0).1.gr HF.out
      have hA' := (HA.out _ o0).2.1.gr HF'.out
      obtain ⟨q, hq⟩ : ∃ q, (decide (ns = ms) && decide (rs = ss)) = q := ⟨_, rfl⟩
      have HQ1 : Hid (∀ W, Out 0 0 U W → Calls Tryz.prog 7 #[.agg #[.slice (some ⟨gn, 0, none⟩) nn cg, .slice (some ⟨gr, 0, none⟩) nr cq], .agg #[.slice (some ⟨hn, 0, none⟩) nn' ch, .slice (some ⟨hr, 0, none⟩) nr' ck]] W fun en w' => en = .returned (.bool q) ∧ Out 0 0 W w') := hid_mk fun W o => hq ▸ equal_any _ _ _ _ nn nr cg cq nn' nr' ch ck ns ms rs ss (hG.quiet o) (hG'.quiet (o1.trans o))
      have HQ2 : Hid (∀ W, Out 0 0 U W → Calls Tryz.prog 8 #[.agg #[.slice na nn cn, .slice ra nr cr], .agg #[.slice na' nn' cn', .slice ra' nr' cr']] W fun en w' => en = .returned (.bool q) ∧ Out 0 0 W w') := hid_mk fun W o => hq ▸ refEqual_any _ _ _ _ nn nr cn cr nn' nr' cn' cr' ns ms rs ss (hA.quiet o) (hA'.quiet o)
      have HQ3 : Hid (∀ W, Out 0 0 U W → Calls Tryz.prog 7 #[.agg #[.slice (some ⟨gn, 0, none⟩) nn cg, .slice (some ⟨gr, 0, none⟩) nr cq], .agg #[.slice na nn cn, .slice ra nr cr]] W fun en w' => en = .returned (.bool true) ∧ Out 0 0 W w') := hid_mk fun W o => by
        have := equal_any _ _ _ _ nn nr cg cq nn nr cn cr ns ns rs rs (hG.quiet o) (hA.quiet o)
        simpa using this
      have HQ4 : Hid (∀ W, Out 0 0 U W → Calls Tryz.prog 7 #[.agg #[.slice na nn cn, .slice ra nr cr], .agg #[.slice (some ⟨gn, 0, none⟩) nn cg, .slice (some ⟨gr, 0, none⟩) nr cq]] W fun en w' => en = .returned (.bool true) ∧ Out 0 0 W w') := hid_mk fun W o => by
        have := equal_any _ _ _ _ nn nr cn cr nn nr cg cq ns ns rs rs (hA.quiet o) (hG.quiet o)
        simpa using this
      have HQ5 : Hid (∀ W, Out 0 0 U W → Calls Tryz.prog 9 #[.agg #[.slice (some ⟨gn, 0, none⟩) nn cg, .slice (some ⟨gr, 0, none⟩) nr cq], .agg #[.slice na nn cn, .slice ra nr cr]] W fun en w' => en = .returned (.bool true) ∧ Out 0 0 W w') := hid_mk fun W o => stays_any (HX.out.2.1.quiet o) na ra nn nr cn cr (hA.quiet o)
      have HQ6 : Hid (∀ W, Out 0 0 U W → Calls Tryz.prog 9 #[.agg #[.slice (some ⟨hn, 0, none⟩) nn' ch, .slice (some ⟨hr, 0, none⟩) nr' ck], .agg #[.slice na' nn' cn', .slice ra' nr' cr']] W fun en w' => en = .returned (.bool true) ∧ Out 0 0 W w') := hid_mk fun W o => stays_any (hL'.quiet o) na' ra' nn' nr' cn' cr' (hA'.quiet o)
      have n1 := q_ne q
      have oU : Out 0 0 U U.drew := (Out.refl 0 0 U).drew
      have HO := hid_mk o0
      clear hG hG' hA hA' hL' bY o1 hq r2 o0
      refine wp_region_held_drew (S := fun w' => w'.cell? ⟨z, 0, none⟩ = some (.slice na nn cn) ∧ w'.cell? ⟨z, 1, none⟩ = some (.slice ra nr cr) ∧ w'.cell? ⟨z + 1, 0, none⟩ = some (.slice na' nn' cn') ∧ w'.cell? ⟨z + 1, 1, none⟩ = some (.slice ra' nr' cr') ∧ w'.cell? ⟨X, 0, none⟩ = some (.slice (some ⟨gn, 0, none⟩) nn cg) ∧ w'.cell? ⟨X, 1, none⟩ = some (.slice (some ⟨gr, 0, none⟩) nr cq) ∧ w'.cell? ⟨Y, 0, none⟩ = some (.slice (some ⟨hn, 0, none⟩) nn' ch) ∧ w'.cell? ⟨Y, 1, none⟩ = some (.slice (some ⟨hr, 0, none⟩) nr' ck)) (by kernel_rfl) ?hS1 (fun hHeld => ?rest1)
      case hS1 => exact ⟨c0, c1, d0, d1, x0, x1, y0, y1⟩
      refine tk 0 ?_
      refine tk 1 ?_
      refine tk 3 ?_
      refine tk 4 ?_
      refine wpAnyH_ready (rs := [2]) (by kernel_rfl) (by simp) ?_
      refine AllReadyH.cons rfl (fun KK hK => ?_) AllReadyH.nil
      simp only [xa, xb, xc]
      go_simp
      refine (HQ1.out _ oU).mono ?_
      rintro en u1 ⟨rfl, o1⟩
      replace oU := oU.trans o1
      clear o1
      refine hK.out _ _ ?hS6 (fun hHeld2 => ?rest6)
      case hS6 => exact ⟨oU.cell c0 (.inr (Nat.zero_le _)), oU.cell c1 (.inr (Nat.zero_le _)), oU.cell d0 (.inr (Nat.zero_le _)), oU.cell d1 (.inr (Nat.zero_le _)), oU.cell x0 (.inr (Nat.zero_le _)), oU.cell x1 (.inr (Nat.zero_le _)), oU.cell y0 (.inr (Nat.zero_le _)), oU.cell y1 (.inr (Nat.zero_le _))⟩
      clear hK KK
      (try clear hHeld)
      have hHeld := hHeld2
      clear hHeld2
      (try simp only [Act.put, xa, xb, xc, xd, xe, xf])
      refine wpAnyH_ready (rs := [5]) (by kernel_rfl) (by simp) ?_
      refine AllReadyH.cons rfl (fun KK hK => ?_) AllReadyH.nil
      simp only [xa, xb, xc]
      go_simp
      refine (HQ2.out _ oU).mono ?_
      rintro en u2 ⟨rfl, o1⟩
      replace oU := oU.trans o1
      clear o1
      refine hK.out _ _ ?hS7 (fun hHeld2 => ?rest7)
      case hS7 => exact ⟨oU.cell c0 (.inr (Nat.zero_le _)), oU.cell c1 (.inr (Nat.zero_le _)), oU.cell d0 (.inr (Nat.zero_le _)), oU.cell d1 (.inr (Nat.zero_le _)), oU.cell x0 (.inr (Nat.zero_le _)), oU.cell x1 (.inr (Nat.zero_le _)), oU.cell y0 (.inr (Nat.zero_le _)), oU.cell y1 (.inr (Nat.zero_le _))⟩
      clear hK KK
      (try clear hHeld)
      have hHeld := hHeld2
      clear hHeld2
      (try simp only [Act.put, xa, xb, xc, xd, xe, xf])
      refine tk 6 ?_
      refine tk 7 ?_
      refine tk 8 ?_
      refine tk 9 ?_
      refine wpAnyH_ready (rs := [10]) (by kernel_rfl) (by simp) ?_
      refine AllReadyH.cons rfl (fun KK hK => ?_) AllReadyH.nil
      simp only [xa, xb, xc]
      go_simp
      refine (HQ3.out _ oU).mono ?_
      rintro en u3 ⟨rfl, o1⟩
      replace oU := oU.trans o1
      clear o1
      refine hK.out _ _ ?hS12 (fun hHeld2 => ?rest12)
      case hS12 => exact ⟨oU.cell c0 (.inr (Nat.zero_le _)), oU.cell c1 (.inr (Nat.zero_le _)), oU.cell d0 (.inr (Nat.zero_le _)), oU.cell d1 (.inr (Nat.zero_le _)), oU.cell x0 (.inr (Nat.zero_le _)), oU.cell x1 (.inr (Nat.zero_le _)), oU.cell y0 (.inr (Nat.zero_le _)), oU.cell y1 (.inr (Nat.zero_le _))⟩
      clear hK KK
      (try clear hHeld)
      have hHeld := hHeld2
      clear hHeld2
      (try simp only [Act.put, xa, xb, xc, xd, xe, xf])
      refine tk 11 ?_
      refine tk 12 ?_
      refine tk 13 ?_
      refine tk 14 ?_
      refine tk 15 ?_
      refine wpAnyH_ready (rs := [16]) (by kernel_rfl) (by simp) ?_
      refine AllReadyH.cons rfl (fun KK hK => ?_) AllReadyH.nil
      simp only [xa, xb, xc]
      go_simp
      refine (HQ4.out _ oU).mono ?_
      rintro en u4 ⟨rfl, o1⟩
      replace oU := oU.trans o1
      clear o1
      refine hK.out _ _ ?hS18 (fun hHeld2 => ?rest18)
      case hS18 => exact ⟨oU.cell c0 (.inr (Nat.zero_le _)), oU.cell c1 (.inr (Nat.zero_le _)), oU.cell d0 (.inr (Nat.zero_le _)), oU.cell d1 (.inr (Nat.zero_le _)), oU.cell x0 (.inr (Nat.zero_le _)), oU.cell x1 (.inr (Nat.zero_le _)), oU.cell y0 (.inr (Nat.zero_le _)), oU.cell y1 (.inr (Nat.zero_le _))⟩
      clear hK KK
      (try clear hHeld)
      have hHeld := hHeld2
      clear hHeld2
      (try simp only [Act.put, xa, xb, xc, xd, xe, xf])
      refine tk 17 ?_
      refine tk 18 ?_
      refine tk 19 ?_
      refine tk 20 ?_
      refine tk 21 ?_
      refine wpAnyH_ready (rs := [22]) (by kernel_rfl) (by simp) ?_
      refine AllReadyH.cons rfl (fun KK hK => ?_) AllReadyH.nil
      simp only [xa, xb, xc]
      go_simp
      refine (HQ5.out _ oU).mono ?_
      rintro en u5 ⟨rfl, o1⟩
      replace oU := oU.trans o1
      clear o1
      refine hK.out _ _ ?hS24 (fun hHeld2 => ?rest24)
      case hS24 => exact ⟨oU.cell c0 (.inr (Nat.zero_le _)), oU.cell c1 (.inr (Nat.zero_le _)), oU.cell d0 (.inr (Nat.zero_le _)), oU.cell d1 (.inr (Nat.zero_le _)), oU.cell x0 (.inr (Nat.zero_le _)), oU.cell x1 (.inr (Nat.zero_le _)), oU.cell y0 (.inr (Nat.zero_le _)), oU.cell y1 (.inr (Nat.zero_le _))⟩
      clear hK KK
      (try clear hHeld)
      have hHeld := hHeld2
      clear hHeld2
      (try simp only [Act.put, xa, xb, xc, xd, xe, xf])
      refine tk 23 ?_
      refine tk 24 ?_
      refine tk 25 ?_
      refine tk 26 ?_
      refine tk 27 ?_
      refine wpAnyH_ready (rs := [28]) (by kernel_rfl) (by simp) ?_
      refine AllReadyH.cons rfl (fun KK hK => ?_) AllReadyH.nil
      simp only [xa, xb, xc]
      go_simp
      refine (HQ6.out _ oU).mono ?_
      rintro en u6 ⟨rfl, o1⟩
      replace oU := oU.trans o1
      clear o1
      refine hK.out _ _ ?hS30 (fun hHeld2 => ?rest30)
      case hS30 => exact ⟨oU.cell c0 (.inr (Nat.zero_le _)), oU.cell c1 (.inr (Nat.zero_le _)), oU.cell d0 (.inr (Nat.zero_le _)), oU.cell d1 (.inr (Nat.zero_le _)), oU.cell x0 (.inr (Nat.zero_le _)), oU.cell x1 (.inr (Nat.zero_le _)), oU.cell y0 (.inr (Nat.zero_le _)), oU.cell y1 (.inr (Nat.zero_le _))⟩
      clear hK KK
      (try clear hHeld)
      have hHeld := hHeld2
      clear hHeld2
      (try simp only [Act.put, xa, xb, xc, xd, xe, xf])
      refine tk 29 ?_
      refine tk 30 ?_
      refine wpAnyH_done (by kernel_rfl) ?_ _
      replace c0 := oU.cell c0 (.inr (Nat.zero_le _))
      replace c1 := oU.cell c1 (.inr (Nat.zero_le _))
      replace x0 := oU.cell x0 (.inr (Nat.zero_le _))
      replace x1 := oU.cell x1 (.inr (Nat.zero_le _))
      replace HO := hid_mk (HO.out.trans oU)
      replace HX := hid_mk (And.intro (HX.out.1.kept oU (.inr (Nat.zero_le _))) (HX.out.2.2.quiet oU))
      clear HQ1 HQ2 HQ3 HQ4 HQ5 HQ6 d0 d1 y0 y1 n1 hHeld oU
      go_wp2_with fail
      go_at_call 10
      refine (turned_any HX.out.2 (by have := HX.out.2.2.2.2.2.1; have := HX.out.2.2.2.2.2.2.1; omega) cg cq at_).mono ?_
      rintro en w9 ⟨rfl, hU, hx, ht⟩
      replace c0 := hx.cell c0 (fun q => by have := HLo.out.1; omega)
      replace c1 := hx.cell c1 (fun q => by have := HLo.out.1; omega)
      replace x0 := (ht.2 X 0 HX.out.1.lt).2.2 _ _ _ x0
      replace x1 := (ht.2 X 1 HX.out.1.lt).2.2 _ _ _ x1
      have hA := ((HA.out _ HO.out).1.gr HF.out).fx hx (fun k hk q => by have := HB.out; have := HLo.out.2; omega)
      obtain ⟨ns', rs', hG⟩ := hU.is
      obtain ⟨q, hq⟩ : ∃ q, (decide (ns' = ns) && decide (rs' = rs)) = q := ⟨_, rfl⟩
      obtain ⟨p, hp⟩ : ∃ p, (decide (ns = ns') && decide (rs = rs')) = p := ⟨_, rfl⟩
      have HQ1 : Hid (∀ W, Out 0 0 w9 W → Calls Tryz.prog 7 #[.agg #[.slice (some ⟨gn, 0, none⟩) nn cg, .slice (some ⟨gr, 0, none⟩) nr cq], .agg #[.slice na nn cn, .slice ra nr cr]] W fun en w' => en = .returned (.bool q) ∧ Out 0 0 W w') := hid_mk fun W o => hq ▸ equal_any _ _ _ _ nn nr cg cq nn nr cn cr ns' ns rs' rs (hG.quiet o) (hA.quiet o)
      have HQ2 : Hid (∀ W, Out 0 0 w9 W → Calls Tryz.prog 8 #[.agg #[.slice (some ⟨gn, 0, none⟩) nn cg, .slice (some ⟨gr, 0, none⟩) nr cq], .agg #[.slice na nn cn, .slice ra nr cr]] W fun en w' => en = .returned (.bool q) ∧ Out 0 0 W w') := hid_mk fun W o => hq ▸ refEqual_any _ _ _ _ nn nr cg cq nn nr cn cr ns' ns rs' rs (hG.quiet o) (hA.quiet o)
      have HQ3 : Hid (∀ W, Out 0 0 w9 W → Calls Tryz.prog 7 #[.agg #[.slice na nn cn, .slice ra nr cr], .agg #[.slice (some ⟨gn, 0, none⟩) nn cg, .slice (some ⟨gr, 0, none⟩) nr cq]] W fun en w' => en = .returned (.bool p) ∧ Out 0 0 W w') := hid_mk fun W o => hp ▸ equal_any _ _ _ _ nn nr cn cr nn nr cg cq ns ns' rs rs' (hA.quiet o) (hG.quiet o)
      have HQ4 : Hid (∀ W, Out 0 0 w9 W → Calls Tryz.prog 8 #[.agg #[.slice na nn cn, .slice ra nr cr], .agg #[.slice (some ⟨gn, 0, none⟩) nn cg, .slice (some ⟨gr, 0, none⟩) nr cq]] W fun en w' => en = .returned (.bool p) ∧ Out 0 0 W w') := hid_mk fun W o => hp ▸ refEqual_any _ _ _ _ nn nr cn cr nn nr cg cq ns ns' rs rs' (hA.quiet o) (hG.quiet o)
      have n1 := q_eq q
      have n2 := q_eq p
      replace HO := hid_mk (out_fx HO.out hx (fun k hk => by have := HLo.out.2; omega))
      have oU : Out 0 0 w9 w9.drew := (Out.refl 0 0 w9).drew
      clear hA hG hq hp hU hx ht
      go_upto_region 8 with fail
      refine wp_region_held_drew (S := fun w' => w'.cell? ⟨z, 0, none⟩ = some (.slice na nn cn) ∧ w'.cell? ⟨z, 1, none⟩ = some (.slice ra nr cr) ∧ w'.cell? ⟨X, 0, none⟩ = some (.slice (some ⟨gn, 0, none⟩) nn cg) ∧ w'.cell? ⟨X, 1, none⟩ = some (.slice (some ⟨gr, 0, none⟩) nr cq)) (by kernel_rfl) ?hS33 (fun hHeld => ?rest33)
      case hS33 => exact ⟨c0, c1, x0, x1⟩
      refine tk 0 ?_
      refine tk 1 ?_
      refine tk 3 ?_
      refine tk 4 ?_
      refine wpAnyH_ready (rs := [2]) (by kernel_rfl) (by simp) ?_
      refine AllReadyH.cons rfl (fun KK hK => ?_) AllReadyH.nil
      simp only [xa, xb, xc]
      go_simp
      refine (HQ1.out _ oU).mono ?_
      rintro en u1 ⟨rfl, o1⟩
      replace oU := oU.trans o1
      clear o1
      refine hK.out _ _ ?hS38 (fun hHeld2 => ?rest38)
      case hS38 => exact ⟨oU.cell c0 (.inr (Nat.zero_le _)), oU.cell c1 (.inr (Nat.zero_le _)), oU.cell x0 (.inr (Nat.zero_le _)), oU.cell x1 (.inr (Nat.zero_le _))⟩
      clear hK KK
      (try clear hHeld)
      have hHeld := hHeld2
      clear hHeld2
      (try simp only [Act.put, xa, xb, xc, xd, xe, xf])
      refine wpAnyH_ready (rs := [5]) (by kernel_rfl) (by simp) ?_
      refine AllReadyH.cons rfl (fun KK hK => ?_) AllReadyH.nil
      simp only [xa, xb, xc]
      go_simp
      refine (HQ2.out _ oU).mono ?_
      rintro en u2 ⟨rfl, o1⟩
      replace oU := oU.trans o1
      clear o1
      refine hK.out _ _ ?hS39 (fun hHeld2 => ?rest39)
      case hS39 => exact ⟨oU.cell c0 (.inr (Nat.zero_le _)), oU.cell c1 (.inr (Nat.zero_le _)), oU.cell x0 (.inr (Nat.zero_le _)), oU.cell x1 (.inr (Nat.zero_le _))⟩
      clear hK KK
      (try clear hHeld)
      have hHeld := hHeld2
      clear hHeld2
      (try simp only [Act.put, xa, xb, xc, xd, xe, xf])
      refine tk 6 ?_
      refine tk 7 ?_
      refine tk 8 ?_
      refine tk 9 ?_
      refine tk 11 ?_
      refine tk 12 ?_
      refine wpAnyH_ready (rs := [10]) (by kernel_rfl) (by simp) ?_
      refine AllReadyH.cons rfl (fun KK hK => ?_) AllReadyH.nil
      simp only [xa, xb, xc]
      go_simp
      refine (HQ3.out _ oU).mono ?_
      rintro en u3 ⟨rfl, o1⟩
      replace oU := oU.trans o1
      clear o1
      refine hK.out _ _ ?hS46 (fun hHeld2 => ?rest46)
      case hS46 => exact ⟨oU.cell c0 (.inr (Nat.zero_le _)), oU.cell c1 (.inr (Nat.zero_le _)), oU.cell x0 (.inr (Nat.zero_le _)), oU.cell x1 (.inr (Nat.zero_le _))⟩
      clear hK KK
      (try clear hHeld)
      have hHeld := hHeld2
      clear hHeld2
      (try simp only [Act.put, xa, xb, xc, xd, xe, xf])
      refine wpAnyH_ready (rs := [13]) (by kernel_rfl) (by simp) ?_
      refine AllReadyH.cons rfl (fun KK hK => ?_) AllReadyH.nil
      simp only [xa, xb, xc]
      go_simp
      refine (HQ4.out _ oU).mono ?_
      rintro en u4 ⟨rfl, o1⟩
      replace oU := oU.trans o1
      clear o1
      refine hK.out _ _ ?hS47 (fun hHeld2 => ?rest47)
      case hS47 => exact ⟨oU.cell c0 (.inr (Nat.zero_le _)), oU.cell c1 (.inr (Nat.zero_le _)), oU.cell x0 (.inr (Nat.zero_le _)), oU.cell x1 (.inr (Nat.zero_le _))⟩
      clear hK KK
      (try clear hHeld)
      have hHeld := hHeld2
      clear hHeld2
      (try simp only [Act.put, xa, xb, xc, xd, xe, xf])
      refine tk 14 ?_
      refine tk 15 ?_
      refine tk 16 ?_
      refine wpAnyH_done (by kernel_rfl) ?_ _
      go_wp2_with fail
      go_ret
      exact ⟨rfl, HO.out.trans oU⟩
end Go.Proofs.YtghlbdmldahnlaaGreatDoor
