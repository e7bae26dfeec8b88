/- hearthref10: Equal -/
import Derived.Test.YtghlbdmldahnlaaGreatDoorGsd
namespace Go.Proofs.YtghlbdmldahnlaaGreatDoor
open Go.RowKit
set_option linter.unusedVariables false
set_option linter.unusedSimpArgs false

set_option maxRecDepth 100000 in
set_option maxHeartbeats 4000000 in
theorem refEqual_any {w : World} {B C : Nat} (na ra na' ra' : Option Addr) (nn nr cn cr nn' nr' cn' cr' : Nat) (ns ms : List (Int × Int × List Int × List Int × List Int)) (rs ss : List Int) (h : GrIn w B na ra nn nr ns rs) (h' : GrIn w C na' ra' nn' nr' ms ss) :
    Calls Tryz.prog 8 #[.agg #[.slice na nn cn, .slice ra nr cr], .agg #[.slice na' nn' cn', .slice ra' nr' cr']] w fun e w' => e = .returned (.bool (decide (ns = ms) && decide (rs = ss))) ∧ Out 0 0 w w' := by
  obtain ⟨b1, b2⟩ := two_bl w #[.slice na nn cn, .slice ra nr cr] #[.slice na' nn' cn', .slice ra' nr' cr'] 25 25
  have o0 := ((Out.refl 0 0 w).alloc (.cells #[.slice na nn cn, .slice ra nr cr] 25)).alloc (.cells #[.slice na' nn' cn', .slice ra' nr' cr'] 25)
  obtain ⟨V, hV⟩ : ∃ V, (w.alloc (.cells #[.slice na nn cn, .slice ra nr cr] 25)).alloc (.cells #[.slice na' nn' cn', .slice ra' nr' cr'] 25) = V := ⟨_, rfl⟩
  obtain ⟨z, hz⟩ : ∃ z, w.heap.size = z := ⟨_, rfl⟩
  rw [hV] at b1 b2 o0
  rw [hz] at b1 b2
  have H := hid_mk (And.intro (h.quiet o0) (And.intro (h'.quiet o0) o0))
  have HB := hid_mk (And.intro b1 b2)
  have c0 := b1.cell (i := 0) rfl
  have c1 := b1.cell (i := 1) rfl
  have d0 := b2.cell (i := 0) rfl
  have d1 := b2.cell (i := 1) rfl
  obtain ⟨bb, hbb⟩ : ∃ bb, (decide (ns = ms) && decide (rs = ss)) = bb := ⟨_, rfl⟩
  rw [hbb]
  have HBB := hid_mk hbb
  have oV : Out 0 0 V V := Out.refl _ _ _
  clear b1 b2 o0 h h' hbb
  by_cases hnn : nn = nn'
  · subst hnn
    obtain ⟨x2, hx2⟩ : ∃ x, decide (rs = ss) = x := ⟨_, rfl⟩
    have HX2 := hid_mk hx2
    cases x2
    · have HF : Hid (bb = false) := hid_mk (by rw [← HBB.out, HX2.out]; simp)
      go_enter Tryz.func8, Tryz.ntmps8
      go_upto_region 1 with fail
      (try rw [hV]); (try rw [hz])
      clear hV hz
      go_wp2_with (go_at_call 18; refine (sameV_any ra ra' nr nr' cr cr' rs ss H.out.1.2.1 H.out.2.1.2.1 H.out.1.2.2.2.1 H.out.2.1.2.2.2.1 (by have := H.out.1.2.1; have := H.out.1.2.2.2.2.2; omega)).mono ?_; rintro en w1 ⟨rfl, o1⟩)
      go_ret
      exact ⟨by rw [HF.out]; rfl, H.out.2.2.trans o1⟩
    · replace HBB : Hid (decide (ns = ms) = bb) := hid_mk (by rw [← HBB.out, HX2.out]; simp)
      have hn : nn ≤ 200000 := by have := H.out.1.1; have := H.out.1.2.2.2.2.1.1; omega
      go_enter Tryz.func8, Tryz.ntmps8
      go_upto_region 1 with fail
      (try rw [hV]); (try rw [hz])
      clear hV hz
      go_wp2_with (go_at_call 18; refine (sameV_any ra ra' nr nr' cr cr' rs ss H.out.1.2.1 H.out.2.1.2.1 H.out.1.2.2.2.1 H.out.2.1.2.2.2.1 (by have := H.out.1.2.1; have := H.out.1.2.2.2.2.2; omega)).mono ?_; rintro en w1 ⟨rfl, o1⟩; replace oV := oV.trans o1; clear o1 c0 c1 d0 d1)
      clear hx2 HX2
      go_loopw [5] (fun y wr => ∃ i : Nat, y = .int .i64 i ∧ i ≤ nn ∧ ns.take i = ms.take i ∧ Out 0 0 V wr) (fun y _ => nn - (intOf y).toNat)
      case atStart => exact ⟨0, rfl, Nat.zero_le _, by simp, oV⟩
      case round =>
        obtain ⟨i, rfl, him, heq, ho⟩ := hrel
        have HE := hid_mk heq
        have HO := hid_mk ho
        have v0 := ho.cell (HB.out.1.cell (i := 0) rfl) (.inr (Nat.zero_le _))
        have v1 := ho.cell (HB.out.2.cell (i := 0) rfl) (.inr (Nat.zero_le _))
        clear heq ho
        by_cases hgo : i < nn
        · have g1 := lt_i hgo
          obtain ⟨m1, m2⟩ := lt_d hgo
          obtain ⟨⟨a, k, r, f, e⟩, ha⟩ : ∃ x, ns[i]? = some x := ⟨_, List.getElem?_eq_getElem (by have := H.out.1.1; omega)⟩
          obtain ⟨⟨a', k', r', f', e'⟩, hb⟩ : ∃ x, ms[i]? = some x := ⟨_, List.getElem?_eq_getElem (by have := H.out.2.1.1; omega)⟩
          obtain ⟨g, off, rfl, hg, hc⟩ := (H.out.1.2.2.1.quiet HO.out).at ha
          obtain ⟨g', off', rfl, hg', hc'⟩ := (H.out.2.1.2.2.1.quiet HO.out).at hb
          obtain ⟨pr, nr, cr, pf, nf, cf, pe, ne, ce, c0, c1, c2, c3, c4, q1, q2, q3, q4, q5, q6⟩ := hc
          obtain ⟨pr', nr', cr', pf', nf', cf', pe', ne', ce', d0, d1, d2, d3, d4, t1, t2, t3, t4, t5, t6⟩ := hc'
          have hsm := H.out.1.2.2.2.2.1.2 _ (List.mem_of_getElem? ha)
          simp only [] at c0 c1 c2 c3 c4 q1 q2 q3 q4 q5 q6 d0 d1 d2 d3 d4 t1 t2 t3 t4 t5 t6 hsm
          obtain ⟨x, hx⟩ : ∃ x, decide (((a, k, r, f, e) : Int × Int × List Int × List Int × List Int) = (a', k', r', f', e')) = x := ⟨_, rfl⟩
          have HQ : Hid (∀ W, Out 0 0 wr W → Calls Tryz.prog 19 #[.agg #[.int .i64 a, .int .i64 k, .slice pr nr cr, .slice pf nf cf, .slice pe ne ce], .agg #[.int .i64 a', .int .i64 k', .slice pr' nr' cr', .slice pf' nf' cf', .slice pe' ne' ce']] W fun en w' => en = .returned (.bool x) ∧ Out 0 0 W w') :=
            hid_mk fun W o => by
              have := refSame_any a k a' k' pr pf pe pr' pf' pe' nr cr nf cf ne ce nr' cr' nf' cf' ne' ce' r f e r' f' e' q1 q2 q3 t1 t2 t3 (q4.quiet o) (q5.quiet o) (q6.quiet o) (t4.quiet o) (t5.quiet o) (t6.quiet o) (by omega) (by omega) (by omega)
              rw [hx] at this
              exact this
          have HX := hid_mk (And.intro ha hb)
          have HD := hid_mk hx
          clear ha hb q1 q2 q3 q4 q5 q6 t1 t2 t3 t4 t5 t6 hsm hx
          cases x
          · have HF : Hid (bb = false) := hid_mk (by rw [← HBB.out]; exact nd_ne HX.out.1 HX.out.2 (by simpa using HD.out))
            go_wp2_with fail
            refine wp_region_held_drew (S := fun w' => w'.cell? ⟨z, 0, none⟩ = some (.slice (some ⟨g, off, none⟩) nn cn) ∧ w'.cell? ⟨z + 1, 0, none⟩ = some (.slice (some ⟨g', off', none⟩) nn cn') ∧ w'.cell? ⟨g, off + i * 5, none⟩ = some (.int .i64 a) ∧ w'.cell? ⟨g', off' + i * 5, none⟩ = some (.int .i64 a') ∧ w'.cell? ⟨g, off + i * 5 + 1, none⟩ = some (.int .i64 k) ∧ w'.cell? ⟨g', off' + i * 5 + 1, none⟩ = some (.int .i64 k') ∧ w'.cell? ⟨g, off + i * 5 + 2, none⟩ = some (.slice pr nr cr) ∧ w'.cell? ⟨g', off' + i * 5 + 2, none⟩ = some (.slice pr' nr' cr') ∧ w'.cell? ⟨g, off + i * 5 + 3, none⟩ = some (.slice pf nf cf) ∧ w'.cell? ⟨g', off' + i * 5 + 3, none⟩ = some (.slice pf' nf' cf') ∧ w'.cell? ⟨g, off + i * 5 + 4, none⟩ = some (.slice pe ne ce) ∧ w'.cell? ⟨g', off' + i * 5 + 4, none⟩ = some (.slice pe' ne' ce')) (by kernel_rfl) ?hS1 (fun hHeld => ?rest1)
            case hS1 => exact ⟨v0, v1, c0, d0, c1, d1, c2, d2, c3, d3, c4, d4⟩
            refine tk 0 ?_
            refine tk 1 ?_
            refine tk 2 ?_
            refine tk 3 ?_
            refine tk 4 ?_
            refine tk 5 ?_
            refine tk 6 ?_
            refine tk 7 ?_
            refine tk 8 ?_
            refine tk 9 ?_
            refine wpAnyH_ready (rs := [10]) (by kernel_rfl) (by simp) ?_
            refine AllReadyH.cons rfl (fun KK hK => ?_) AllReadyH.nil
            simp only [xa, xb, xc]
            go_simp
            refine (HQ.out _ ((Out.refl 0 0 wr).drew)).mono ?_
            rintro en w1 ⟨rfl, o1⟩
            refine hK.out _ _ ?hS12 (fun hHeld2 => ?rest12)
            case hS12 => exact ⟨(((Out.refl 0 0 wr).drew).trans o1).cell v0 (.inr (Nat.zero_le _)), (((Out.refl 0 0 wr).drew).trans o1).cell v1 (.inr (Nat.zero_le _)), (((Out.refl 0 0 wr).drew).trans o1).cell c0 (.inr (Nat.zero_le _)), (((Out.refl 0 0 wr).drew).trans o1).cell d0 (.inr (Nat.zero_le _)), (((Out.refl 0 0 wr).drew).trans o1).cell c1 (.inr (Nat.zero_le _)), (((Out.refl 0 0 wr).drew).trans o1).cell d1 (.inr (Nat.zero_le _)), (((Out.refl 0 0 wr).drew).trans o1).cell c2 (.inr (Nat.zero_le _)), (((Out.refl 0 0 wr).drew).trans o1).cell d2 (.inr (Nat.zero_le _)), (((Out.refl 0 0 wr).drew).trans o1).cell c3 (.inr (Nat.zero_le _)), (((Out.refl 0 0 wr).drew).trans o1).cell d3 (.inr (Nat.zero_le _)), (((Out.refl 0 0 wr).drew).trans o1).cell c4 (.inr (Nat.zero_le _)), (((Out.refl 0 0 wr).drew).trans o1).cell d4 (.inr (Nat.zero_le _))⟩
            clear hK KK
            (try clear hHeld)
            have hHeld := hHeld2
            clear hHeld2
            (try simp only [Act.put, xa, xb, xc, xd, xe, xf])
            refine tk 11 ?_
            refine wpAnyH_done (by kernel_rfl) ?_ _
            go_wp2_with fail
            go_ret
            exact ⟨by rw [HF.out]; rfl, (H.out.2.2.trans HO.out).trans (((Out.refl 0 0 wr).drew).trans o1)⟩
          · go_wp2_with fail
            refine wp_region_held_drew (S := fun w' => w'.cell? ⟨z, 0, none⟩ = some (.slice (some ⟨g, off, none⟩) nn cn) ∧ w'.cell? ⟨z + 1, 0, none⟩ = some (.slice (some ⟨g', off', none⟩) nn cn') ∧ w'.cell? ⟨g, off + i * 5, none⟩ = some (.int .i64 a) ∧ w'.cell? ⟨g', off' + i * 5, none⟩ = some (.int .i64 a') ∧ w'.cell? ⟨g, off + i * 5 + 1, none⟩ = some (.int .i64 k) ∧ w'.cell? ⟨g', off' + i * 5 + 1, none⟩ = some (.int .i64 k') ∧ w'.cell? ⟨g, off + i * 5 + 2, none⟩ = some (.slice pr nr cr) ∧ w'.cell? ⟨g', off' + i * 5 + 2, none⟩ = some (.slice pr' nr' cr') ∧ w'.cell? ⟨g, off + i * 5 + 3, none⟩ = some (.slice pf nf cf) ∧ w'.cell? ⟨g', off' + i * 5 + 3, none⟩ = some (.slice pf' nf' cf') ∧ w'.cell? ⟨g, off + i * 5 + 4, none⟩ = some (.slice pe ne ce) ∧ w'.cell? ⟨g', off' + i * 5 + 4, none⟩ = some (.slice pe' ne' ce')) (by kernel_rfl) ?hS14 (fun hHeld => ?rest14)
            case hS14 => exact ⟨v0, v1, c0, d0, c1, d1, c2, d2, c3, d3, c4, d4⟩
            refine tk 0 ?_
            refine tk 1 ?_
            refine tk 2 ?_
            refine tk 3 ?_
            refine tk 4 ?_
            refine tk 5 ?_
            refine tk 6 ?_
            refine tk 7 ?_
            refine tk 8 ?_
            refine tk 9 ?_
            refine wpAnyH_ready (rs := [10]) (by kernel_rfl) (by simp) ?_
            refine AllReadyH.cons rfl (fun KK hK => ?_) AllReadyH.nil
            simp only [xa, xb, xc]
            go_simp
            refine (HQ.out _ ((Out.refl 0 0 wr).drew)).mono ?_
            rintro en w1 ⟨rfl, o1⟩
            refine hK.out _ _ ?hS25 (fun hHeld2 => ?rest25)
            case hS25 => exact ⟨(((Out.refl 0 0 wr).drew).trans o1).cell v0 (.inr (Nat.zero_le _)), (((Out.refl 0 0 wr).drew).trans o1).cell v1 (.inr (Nat.zero_le _)), (((Out.refl 0 0 wr).drew).trans o1).cell c0 (.inr (Nat.zero_le _)), (((Out.refl 0 0 wr).drew).trans o1).cell d0 (.inr (Nat.zero_le _)), (((Out.refl 0 0 wr).drew).trans o1).cell c1 (.inr (Nat.zero_le _)), (((Out.refl 0 0 wr).drew).trans o1).cell d1 (.inr (Nat.zero_le _)), (((Out.refl 0 0 wr).drew).trans o1).cell c2 (.inr (Nat.zero_le _)), (((Out.refl 0 0 wr).drew).trans o1).cell d2 (.inr (Nat.zero_le _)), (((Out.refl 0 0 wr).drew).trans o1).cell c3 (.inr (Nat.zero_le _)), (((Out.refl 0 0 wr).drew).trans o1).cell d3 (.inr (Nat.zero_le _)), (((Out.refl 0 0 wr).drew).trans o1).cell c4 (.inr (Nat.zero_le _)), (((Out.refl 0 0 wr).drew).trans o1).cell d4 (.inr (Nat.zero_le _))⟩
            clear hK KK
            (try clear hHeld)
            have hHeld := hHeld2
            clear hHeld2
            (try simp only [Act.put, xa, xb, xc, xd, xe, xf])
            refine tk 11 ?_
            refine wpAnyH_done (by kernel_rfl) ?_ _
            go_wp2_with fail
            go_roundw
            case rel => exact ⟨i + 1, by go_num, hgo, take_n HE.out HX.out.1 (by have := of_decide_eq_true HD.out; rw [this]; exact HX.out.2), HO.out.trans (((Out.refl 0 0 wr).drew).trans o1)⟩
            case measure => simp [intOf]; omega
        · obtain rfl : nn = i := by omega
          have m1 : decide ((nn : Int) < (nn : Int)) = false := by simp
          have HNE : Hid (bb = true) := hid_mk (by
            rw [← HBB.out]
            simp only [decide_eq_true_eq]
            have h1 := HE.out
            rw [List.take_of_length_le (by have := H.out.1.1; omega), List.take_of_length_le (by have := H.out.2.1.1; omega)] at h1
            exact h1)
          go_wp2_with fail
          go_ret
          exact ⟨by rw [HNE.out]; rfl, H.out.2.2.trans HO.out⟩
  · have hne : ((nn : Int) != (nn' : Int)) = true := by simp; omega
    have HF : Hid (bb = false) := hid_mk (by
      rw [← HBB.out]
      have : decide (ns = ms) = false := by
        simp only [decide_eq_false_iff_not]
        intro ee
        have h1 := H.out.1.1
        have h2 := H.out.2.1.1
        rw [ee] at h1
        omega
      rw [this]; simp)
    go_enter Tryz.func8, Tryz.ntmps8
    go_upto_region 1 with fail
    (try rw [hV]); (try rw [hz])
    clear hV hz
    go_wp2_with fail
    go_ret
    exact ⟨by rw [HF.out]; rfl, H.out.2.2⟩
end Go.Proofs.YtghlbdmldahnlaaGreatDoor
