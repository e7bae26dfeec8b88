/- graph: a heap of nodes; what it tells of a value -/
import Derived.Test.YtocncffplcfpbaaGreatDoorVvg
import Derived.Test.YtocncffplcfpbaaGreatDoorGra
namespace Go.Proofs.YtocncffplcfpbaaGreatDoor
open Go.RowKit
set_option linter.unusedVariables false
set_option linter.unusedSimpArgs false

/-- block h is a heap, m its map, f what is in it -/
def HP (w : World) (h m : Nat) (last : Int) (f : Int → Option Value) : Prop := Bl w h #[.map (some m), .int .i64 last] 59 ∧ MpAt w m f
theorem HP.fx {S : Nat → Prop} {w w' : World} {h m : Nat} {l : Int} {f : Int → Option Value} (H : HP w h m l f) (x : Fx S w w') (h1 : ¬ S h) (h2 : ¬ S m) : HP w' h m l f := by
  refine ⟨H.1.fx x h1, ?_⟩
  obtain ⟨es, clock, hb, r⟩ := H.2
  exact ⟨es, clock, x.heap hb h2, r⟩
theorem HP.quiet {w w' : World} {h m : Nat} {l : Int} {f : Int → Option Value} (H : HP w h m l f) (x : Out 0 0 w w') : HP w' h m l f := H.fx (Fx.of_out (S := fun _ => False) x) id id
theorem zero_np (w : World) : (zeroValue 61).run Tryz.prog w = .ok (.pointer none) w := by kernel_rfl

theorem self_at (h : Nat) (w : World) : Calls Tryz.prog 61 #[.pointer (some ⟨h, 0, none⟩)] w fun e w' => e = .returned (.pointer (some ⟨h, 0, none⟩)) ∧ w' = w := by
  go_enter Tryz.func61, Tryz.ntmps61
  go_wp2
  go_ret
  exact ⟨rfl, rfl⟩

/-- the node of a value -/
def ndV (f : Int → Option Value) (k x : Int) : Value := if k = 2 ∧ validB_v k x = true then (f x).getD (.pointer none) else .pointer none
set_option maxHeartbeats 1000000 in
theorem node_at {W : World} {h m : Nat} {l : Int} {f : Int → Option Value} (H : HP W h m l f) (k x : Int) :
    Calls Tryz.prog 42 #[.pointer (some ⟨h, 0, none⟩), .agg #[.int .i64 k, .int .i64 x]] W fun e w' => e = .returned (ndV f k x) ∧ Out 0 0 W w' := by
  have o1 : Out 0 0 W (W.alloc (.cells #[.int .i64 k, .int .i64 x] 28)) := (Out.refl _ _ _).alloc _
  have V0 := hid_mk (VC_v.new W k x)
  have H1 := hid_mk (H.quiet o1)
  have HO := hid_mk o1
  have hl := H.1.lt
  clear H o1
  by_cases hk : k = 2
  · subst hk
    cases hv : validB_v 2 x
    · rw [show ndV f 2 x = .pointer none from by unfold ndV; rw [if_neg (by rw [hv]; simp)]]
      go_enter Tryz.func42, Tryz.ntmps42
      go_wp2_with fail
      refine (valid_any_v 2 x _).mono ?_
      rintro e w1 ⟨rfl, hg⟩
      rw [hv]
      have hb := HO.out.trans (Out.of_below hg 0 0)
      clear hg HO V0 H1
      go_wp2_with fail
      go_ret
      exact ⟨rfl, hb⟩
    · rw [show ndV f 2 x = (f x).getD (.pointer none) from by unfold ndV; rw [if_pos ⟨rfl, hv⟩]]
      go_enter Tryz.func42, Tryz.ntmps42
      go_wp2_with fail
      refine (valid_any_v 2 x _).mono ?_
      rintro e w1 ⟨rfl, hg⟩
      rw [hv]
      have hb := hid_mk (HO.out.trans (Out.of_below hg 0 0))
      have g0 := V0.out.kept hg
      have H2 := hid_mk (H1.out.quiet (Out.of_below hg 0 0))
      clear hg HO V0 H1
      obtain ⟨x0, x1, x2, x3⟩ := g0.facts
      have x4 := H2.out.1.cell (i := 0) rfl
      have lk := mp_look false Tryz.underlying57 Tryz.underlying3 (zero_np _) (H2.out.quiet ((Out.refl 0 0 w1).drew)).2 x
      rw [if_neg (by simp)] at lk
      clear g0
      go_wp2_with fail
      go_region_with (go_at_call 61; refine calls_same (self_at _ _) ?_)
      go_wp2
      all_goals (go_ret; exact ⟨rfl, hb.out.drew⟩)
  · rw [show ndV f k x = .pointer none from by unfold ndV; rw [if_neg (fun q => hk q.1)]]
    have hk' : (k == 2) = false := by simpa using hk
    go_enter Tryz.func42, Tryz.ntmps42
    go_wp2_with fail
    go_ret
    exact ⟨rfl, HO.out⟩

/-- where a value of the map points, all of them are nodes: their kinds -/
def Kd (w : World) (f : Int → Option Value) (kd : Int → Int) : Prop := ∀ x, (f x = none ∧ kd x = 0) ∨ ∃ b, f x = some (.pointer (some ⟨b, 0, none⟩)) ∧ w.cell? ⟨b, 0, none⟩ = some (.int .i64 (kd x))
theorem Kd.fx {S : Nat → Prop} {w w' : World} {f : Int → Option Value} {kd : Int → Int} (H : Kd w f kd) (x : Fx S w w') (h : ∀ y b, f y = some (.pointer (some ⟨b, 0, none⟩)) → ¬ S b) : Kd w' f kd := fun y => by
  rcases H y with g | ⟨b, g1, g2⟩
  · exact .inl g
  · exact .inr ⟨b, g1, x.cell g2 (h y b g1)⟩
theorem Kd.quiet {w w' : World} {f : Int → Option Value} {kd : Int → Int} (H : Kd w f kd) (x : Out 0 0 w w') : Kd w' f kd := H.fx (Fx.of_out (S := fun _ => False) x) (fun _ _ _ q => q)
/-- the kind of the node of a value -/
def kdV (kd : Int → Int) (k x : Int) : Int := if k = 2 ∧ validB_v k x = true then kd x else 0
set_option maxHeartbeats 1000000 in
theorem kind_at {W : World} {h m : Nat} {l : Int} {f : Int → Option Value} {kd : Int → Int} (H : HP W h m l f) (hK : Kd W f kd) (k x : Int) :
    Calls Tryz.prog 58 #[.pointer (some ⟨h, 0, none⟩), .agg #[.int .i64 k, .int .i64 x]] W fun e w' => e = .returned (.int .i64 (kdV kd k x)) ∧ Out 0 0 W w' := by
  have o1 : Out 0 0 W (W.alloc (.cells #[.int .i64 k, .int .i64 x] 28)) := (Out.refl _ _ _).alloc _
  have H1 := hid_mk (H.quiet o1)
  have HK := hid_mk (hK.quiet o1)
  have HO := hid_mk o1
  have hl := H.1.lt
  clear H o1 hK
  have hc : (ndV f k x = .pointer none ∧ kdV kd k x = 0) ∨ ∃ b, ndV f k x = .pointer (some ⟨b, 0, none⟩) ∧ (W.alloc (.cells #[.int .i64 k, .int .i64 x] 28)).cell? ⟨b, 0, none⟩ = some (.int .i64 (kdV kd k x)) := by
    unfold ndV kdV
    by_cases hv : k = 2 ∧ validB_v k x = true
    · rw [if_pos hv, if_pos hv]
      rcases HK.out x with ⟨g1, g2⟩ | ⟨b, g1, g2⟩
      · exact .inl ⟨by rw [g1]; rfl, g2⟩
      · exact .inr ⟨b, by rw [g1]; rfl, g2⟩
    · rw [if_neg hv, if_neg hv]
      exact .inl ⟨rfl, rfl⟩
  rcases hc with ⟨e1, e2⟩ | ⟨b, e1, e2⟩
  · rw [e2]
    go_enter Tryz.func58, Tryz.ntmps58
    go_wp2_with fail
    refine (node_at H1.out k x).mono ?_
    rintro e w1 ⟨rfl, hg⟩
    rw [e1]
    have hb := HO.out.trans hg
    clear hg HO H1
    go_wp2_with fail
    go_ret
    exact ⟨rfl, hb⟩
  · go_enter Tryz.func58, Tryz.ntmps58
    go_wp2_with fail
    refine (node_at H1.out k x).mono ?_
    rintro e w1 ⟨rfl, hg⟩
    rw [e1]
    have hb := HO.out.trans hg
    have c1 := hg.cell e2 (.inr (Nat.zero_le _))
    clear hg HO H1 e2
    go_wp2_with fail
    go_ret
    exact ⟨rfl, hb⟩

/-- may a value stand wherever a program can put one -/
def plB (kd : Int → Int) (k x : Int) : Bool := if k = 2 then (decide (1 ≤ kdV kd k x) && decide (kdV kd k x ≤ 10)) else validB_v k x
set_option maxHeartbeats 1000000 in
theorem plain_at {W : World} {h m : Nat} {l : Int} {f : Int → Option Value} {kd : Int → Int} (H : HP W h m l f) (hK : Kd W f kd) (k x : Int) :
    Calls Tryz.prog 40 #[.pointer (some ⟨h, 0, none⟩), .agg #[.int .i64 k, .int .i64 x]] W fun e w' => e = .returned (.bool (plB kd k x)) ∧ Out 0 0 W w' := by
  have o1 : Out 0 0 W (W.alloc (.cells #[.int .i64 k, .int .i64 x] 28)) := (Out.refl _ _ _).alloc _
  have H1 := hid_mk (H.quiet o1)
  have HK := hid_mk (hK.quiet o1)
  have HO := hid_mk o1
  have hl := H.1.lt
  clear H o1 hK
  by_cases hk : k = 2
  · subst hk
    rw [show plB kd 2 x = (decide (1 ≤ kdV kd 2 x) && decide (kdV kd 2 x ≤ 10)) from if_pos rfl]
    go_enter Tryz.func40, Tryz.ntmps40
    go_wp2_with fail
    refine (kind_at H1.out HK.out 2 x).mono ?_
    rintro e w1 ⟨rfl, hg⟩
    have hb := HO.out.trans hg
    clear hg HO H1 HK
    go_wp2_with (go_at_call 60; refine calls_same (visible_any _ _) ?_)
    go_ret
    exact ⟨rfl, hb⟩
  · rw [show plB kd k x = validB_v k x from if_neg hk]
    have hk' : (k == 2) = false := by simpa using hk
    go_enter Tryz.func40, Tryz.ntmps40
    go_wp2_with fail
    refine (valid_any_v k x _).mono ?_
    rintro e w1 ⟨rfl, hg⟩
    have hb := HO.out.trans (Out.of_below hg 0 0)
    clear hg HO H1 HK
    go_wp2_with fail
    go_ret
    exact ⟨rfl, hb⟩
end Go.Proofs.YtocncffplcfpbaaGreatDoor
