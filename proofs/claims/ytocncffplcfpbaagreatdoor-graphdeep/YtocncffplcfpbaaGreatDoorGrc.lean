/- graph: the contracts of may (of kinds without places of their own), rooted -/
import Derived.Test.YtocncffplcfpbaaGreatDoorGrb
import Derived.Deep.Cut
import Derived.Deep.RegionHeld3
namespace Go.Proofs.YtocncffplcfpbaaGreatDoor
open Go.RowKit
set_option linter.unusedVariables false
set_option linter.unusedSimpArgs false

theorem imm_nil (w : World) : Calls Tryz.prog 44 #[.int .i64 0] w fun e w' => e = .returned (.agg #[.int .i64 3, .int .i64 0]) ∧ Below w.heap.size w w' := imm_any_v 0 w
set_option maxHeartbeats 2000000 in
theorem may_p1 {W : World} {h m n : Nat} {l : Int} {f : Int → Option Value} {kd : Int → Int} (H : HP W h m l f) (hK : Kd W f kd) (K k x : Int) (i : Int) (hn : W.cell? ⟨n, 0, none⟩ = some (.int .i64 K)) (h7 : (K == 7) = false) (h11 : (K == 11) = false) (q1 : ¬ k = 3) :
    Calls Tryz.prog 39 #[.pointer (some ⟨h, 0, none⟩), .pointer (some ⟨n, 0, none⟩), .int .i64 i, .agg #[.int .i64 k, .int .i64 x]] W fun e w' => e = .returned (.bool (plB kd k x)) ∧ Out 0 0 W w' := by
  obtain ⟨W1, hW1⟩ : ∃ W1, W.alloc (.cells #[.int .i64 k, .int .i64 x] 28) = W1 := ⟨_, rfl⟩
  obtain ⟨g, hg0⟩ : ∃ g, W.heap.size = g := ⟨_, rfl⟩
  have o1 : Out 0 0 W W1 := hW1 ▸ (Out.refl _ _ _).alloc _
  have V0 : VC_v W1 g k x := by rw [← hW1, ← hg0]; exact VC_v.new W k x
  have H1 := hid_mk (H.quiet o1)
  have HK := hid_mk (hK.quiet o1)
  have n1 := o1.cell hn (.inr (Nat.zero_le _))
  have HO := hid_mk o1
  obtain ⟨x0, x1, x2, x3⟩ := V0.facts
  clear H o1 hK hn V0 x2 x3
  go_enter Tryz.func39, Tryz.ntmps39
  go_upto_region 1 with fail
  (try rw [hW1]); (try rw [hg0])
  clear hW1 hg0
  refine wp_region_held_drew (S := fun w' => w'.cell? ⟨g, 0, none⟩ = some (.int .i64 k) ∧ w'.cell? ⟨g, 1, none⟩ = some (.int .i64 x)) (by kernel_rfl) ?hS1 (fun hHeld => ?rest1)
  case hS1 => exact ⟨x0, x1⟩
  refine tk 0 ?_
  refine wpAnyH_ready (rs := [1]) (by kernel_rfl) (by simp) ?_
  refine AllReadyH.cons rfl (fun KK hK => ?_) AllReadyH.nil
  simp only [xa, xb, xc]
  go_simp
  refine (imm_nil _).mono ?_
  rintro e w9 ⟨rfl, b9⟩
  have o9 : Out 0 0 W1 w9 := ((Out.refl 0 0 W1).drew).trans (Out.of_below b9 0 0)
  refine hK.out _ _ ?hS3 (fun hHeld2 => ?rest3)
  case hS3 => exact ⟨o9.cell x0 (.inr (Nat.zero_le _)), o9.cell x1 (.inr (Nat.zero_le _))⟩
  clear hK KK
  (try clear hHeld)
  have hHeld := hHeld2
  clear hHeld2
  (try simp only [Act.put, xa, xb, xc, xd, xe, xf])
  refine tk 2 ?_
  refine tk 3 ?_
  refine wpAnyH_done (by kernel_rfl) ?_ _
  replace n1 := o9.cell n1 (.inr (Nat.zero_le _))
  replace x0 := o9.cell x0 (.inr (Nat.zero_le _))
  replace x1 := o9.cell x1 (.inr (Nat.zero_le _))
  replace HO := hid_mk (HO.out.trans o9)
  replace H1 := hid_mk (H1.out.quiet o9)
  replace HK := hid_mk (HK.out.quiet o9)
  clear o9 b9 hHeld
  go_wp2_with fail
  refine (plain_at H1.out HK.out k x).mono ?_
  rintro e w1 ⟨rfl, hg⟩
  have hb := HO.out.trans hg
  clear hg HO H1 HK n1 x0 x1
  go_wp2_with fail
  go_ret
  exact ⟨rfl, hb⟩
set_option maxHeartbeats 2000000 in
theorem may_p2 {W : World} {h m n : Nat} {l : Int} {f : Int → Option Value} {kd : Int → Int} (H : HP W h m l f) (hK : Kd W f kd) (K x : Int) (i : Int) (hn : W.cell? ⟨n, 0, none⟩ = some (.int .i64 K)) (h7 : (K == 7) = false) (h11 : (K == 11) = false) (q1 : ¬ x = 0) :
    Calls Tryz.prog 39 #[.pointer (some ⟨h, 0, none⟩), .pointer (some ⟨n, 0, none⟩), .int .i64 i, .agg #[.int .i64 3, .int .i64 x]] W fun e w' => e = .returned (.bool (plB kd 3 x)) ∧ Out 0 0 W w' := by
  obtain ⟨W1, hW1⟩ : ∃ W1, W.alloc (.cells #[.int .i64 3, .int .i64 x] 28) = W1 := ⟨_, rfl⟩
  obtain ⟨g, hg0⟩ : ∃ g, W.heap.size = g := ⟨_, rfl⟩
  have o1 : Out 0 0 W W1 := hW1 ▸ (Out.refl _ _ _).alloc _
  have V0 : VC_v W1 g 3 x := by rw [← hW1, ← hg0]; exact VC_v.new W 3 x
  have H1 := hid_mk (H.quiet o1)
  have HK := hid_mk (hK.quiet o1)
  have n1 := o1.cell hn (.inr (Nat.zero_le _))
  have HO := hid_mk o1
  obtain ⟨x0, x1, x2, x3⟩ := V0.facts
  clear H o1 hK hn V0 x2 x3
  go_enter Tryz.func39, Tryz.ntmps39
  go_upto_region 1 with fail
  (try rw [hW1]); (try rw [hg0])
  clear hW1 hg0
  refine wp_region_held_drew (S := fun w' => w'.cell? ⟨g, 0, none⟩ = some (.int .i64 3) ∧ w'.cell? ⟨g, 1, none⟩ = some (.int .i64 x)) (by kernel_rfl) ?hS6 (fun hHeld => ?rest6)
  case hS6 => exact ⟨x0, x1⟩
  refine tk 0 ?_
  refine wpAnyH_ready (rs := [1]) (by kernel_rfl) (by simp) ?_
  refine AllReadyH.cons rfl (fun KK hK => ?_) AllReadyH.nil
  simp only [xa, xb, xc]
  go_simp
  refine (imm_nil _).mono ?_
  rintro e w9 ⟨rfl, b9⟩
  have o9 : Out 0 0 W1 w9 := ((Out.refl 0 0 W1).drew).trans (Out.of_below b9 0 0)
  refine hK.out _ _ ?hS8 (fun hHeld2 => ?rest8)
  case hS8 => exact ⟨o9.cell x0 (.inr (Nat.zero_le _)), o9.cell x1 (.inr (Nat.zero_le _))⟩
  clear hK KK
  (try clear hHeld)
  have hHeld := hHeld2
  clear hHeld2
  (try simp only [Act.put, xa, xb, xc, xd, xe, xf])
  refine tk 2 ?_
  refine tk 3 ?_
  refine wpAnyH_done (by kernel_rfl) ?_ _
  replace n1 := o9.cell n1 (.inr (Nat.zero_le _))
  replace x0 := o9.cell x0 (.inr (Nat.zero_le _))
  replace x1 := o9.cell x1 (.inr (Nat.zero_le _))
  replace HO := hid_mk (HO.out.trans o9)
  replace H1 := hid_mk (H1.out.quiet o9)
  replace HK := hid_mk (HK.out.quiet o9)
  clear o9 b9 hHeld
  go_wp2_with fail
  refine (plain_at H1.out HK.out 3 x).mono ?_
  rintro e w1 ⟨rfl, hg⟩
  have hb := HO.out.trans hg
  clear hg HO H1 HK n1 x0 x1
  go_wp2_with fail
  go_ret
  exact ⟨rfl, hb⟩
set_option maxHeartbeats 2000000 in
theorem may_p3 {W : World} {h m n : Nat} {l : Int} {f : Int → Option Value} {kd : Int → Int} (H : HP W h m l f) (hK : Kd W f kd) (K  : Int) (i : Int) (hn : W.cell? ⟨n, 0, none⟩ = some (.int .i64 K)) (h7 : (K == 7) = false) (h11 : (K == 11) = false) :
    Calls Tryz.prog 39 #[.pointer (some ⟨h, 0, none⟩), .pointer (some ⟨n, 0, none⟩), .int .i64 i, .agg #[.int .i64 3, .int .i64 0]] W fun e w' => e = .returned (.bool (plB kd 3 0)) ∧ Out 0 0 W w' := by
  obtain ⟨W1, hW1⟩ : ∃ W1, W.alloc (.cells #[.int .i64 3, .int .i64 0] 28) = W1 := ⟨_, rfl⟩
  obtain ⟨g, hg0⟩ : ∃ g, W.heap.size = g := ⟨_, rfl⟩
  have o1 : Out 0 0 W W1 := hW1 ▸ (Out.refl _ _ _).alloc _
  have V0 : VC_v W1 g 3 0 := by rw [← hW1, ← hg0]; exact VC_v.new W 3 0
  have H1 := hid_mk (H.quiet o1)
  have HK := hid_mk (hK.quiet o1)
  have n1 := o1.cell hn (.inr (Nat.zero_le _))
  have HO := hid_mk o1
  obtain ⟨x0, x1, x2, x3⟩ := V0.facts
  clear H o1 hK hn V0 x2 x3
  go_enter Tryz.func39, Tryz.ntmps39
  go_upto_region 1 with fail
  (try rw [hW1]); (try rw [hg0])
  clear hW1 hg0
  refine wp_region_held_drew (S := fun w' => w'.cell? ⟨g, 0, none⟩ = some (.int .i64 3) ∧ w'.cell? ⟨g, 1, none⟩ = some (.int .i64 0)) (by kernel_rfl) ?hS11 (fun hHeld => ?rest11)
  case hS11 => exact ⟨x0, x1⟩
  refine tk 0 ?_
  refine wpAnyH_ready (rs := [1]) (by kernel_rfl) (by simp) ?_
  refine AllReadyH.cons rfl (fun KK hK => ?_) AllReadyH.nil
  simp only [xa, xb, xc]
  go_simp
  refine (imm_nil _).mono ?_
  rintro e w9 ⟨rfl, b9⟩
  have o9 : Out 0 0 W1 w9 := ((Out.refl 0 0 W1).drew).trans (Out.of_below b9 0 0)
  refine hK.out _ _ ?hS13 (fun hHeld2 => ?rest13)
  case hS13 => exact ⟨o9.cell x0 (.inr (Nat.zero_le _)), o9.cell x1 (.inr (Nat.zero_le _))⟩
  clear hK KK
  (try clear hHeld)
  have hHeld := hHeld2
  clear hHeld2
  (try simp only [Act.put, xa, xb, xc, xd, xe, xf])
  refine tk 2 ?_
  refine tk 3 ?_
  refine wpAnyH_done (by kernel_rfl) ?_ _
  replace n1 := o9.cell n1 (.inr (Nat.zero_le _))
  replace x0 := o9.cell x0 (.inr (Nat.zero_le _))
  replace x1 := o9.cell x1 (.inr (Nat.zero_le _))
  replace HO := hid_mk (HO.out.trans o9)
  replace H1 := hid_mk (H1.out.quiet o9)
  replace HK := hid_mk (HK.out.quiet o9)
  clear o9 b9 hHeld
  go_wp2_with fail
  refine (plain_at H1.out HK.out 3 0).mono ?_
  rintro e w1 ⟨rfl, hg⟩
  have hb := HO.out.trans hg
  clear hg HO H1 HK n1 x0 x1
  go_wp2_with fail
  go_ret
  exact ⟨rfl, hb⟩
theorem may_plain {W : World} {h m n : Nat} {l : Int} {f : Int → Option Value} {kd : Int → Int} (H : HP W h m l f) (hK : Kd W f kd) (K k x : Int) (i : Int) (hn : W.cell? ⟨n, 0, none⟩ = some (.int .i64 K)) (h7 : (K == 7) = false) (h11 : (K == 11) = false) :
    Calls Tryz.prog 39 #[.pointer (some ⟨h, 0, none⟩), .pointer (some ⟨n, 0, none⟩), .int .i64 i, .agg #[.int .i64 k, .int .i64 x]] W fun e w' => e = .returned (.bool (plB kd k x)) ∧ Out 0 0 W w' := by
  by_cases hk : k = 3
  · subst hk
    by_cases hx : x = 0
    · subst hx; exact may_p3 H hK K i hn h7 h11
    · exact may_p2 H hK K x i hn h7 h11 hx
  · exact may_p1 H hK K k x i hn h7 h11 hk
end Go.Proofs.YtocncffplcfpbaaGreatDoor
