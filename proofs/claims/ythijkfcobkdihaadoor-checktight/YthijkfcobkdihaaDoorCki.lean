/- package check: an instruction is met; on to the next one -/
import Derived.Test.YthijkfcobkdihaaDoorCkh
namespace Go.Proofs.YthijkfcobkdihaaDoor
open Go.RowKit
set_option linter.unusedVariables false
set_option linter.unusedSimpArgs false

theorem iv_cell {w : World} {dg j : Nat} {D : List Int} {x : Int} (h : Bl w dg (ivs D).toArray 3) (hj : D[j]? = some x) : w.cell? ⟨dg, j, none⟩ = some (.int .i64 x) := h.cell (by rw [List.getElem?_toArray]; exact ivs_is hj)
theorem iv_set {w : World} {dg j : Nat} {D : List Int} {d : Int} (h : Bl w dg (ivs D).toArray 3) : Bl (w.setCell ⟨dg, j, none⟩ (.int .i64 d)) dg (ivs (D.set j d)).toArray 3 := by
  have := h.set j (.int .i64 d)
  unfold ivs at *
  rw [List.map_set]
  simpa using this
set_option maxHeartbeats 1000000 in
theorem meet_any {w : World} (P L C : Int) (ca : Option Addr) (n cc : Nat) (k g : Int) (ta : Option Addr) (nt tc : Nat) (fa : Option Addr) (nf fc : Nat) {p dg : Nat} {D : List Int} {R : List Nat} {ro : Option Nat} (h : WK w P L C ca n cc k g ta nt tc fa nf fc p dg D R ro) (j : Nat) (d : Int) (hjn : j < n) (hj : j ∉ R) (hs : R.Pairwise (· < ·)) (hR : R.length ≤ 5000) :
    Calls Tryd.prog 74 #[.pointer (some ⟨p, 0, none⟩), .int .i64 j, .int .i64 d] w fun e w' => e = .returned (.tuple #[]) ∧ ∃ ro', WK w' P L C ca n cc k g ta nt tc fa nf fc p dg (D.set j d) (insF j R) ro' ∧ SW p dg ro w ro' w' := by
  obtain ⟨ra, rc, b1, b2, b3, b4, b5, b6⟩ := h
  obtain ⟨x, hx⟩ : ∃ x, D[j]? = some x := ⟨_, List.getElem?_eq_getElem (by omega)⟩
  have c8 := b1.cell (i := 8) rfl
  have cj := iv_cell b2 hx
  have zj := b2.frozen j
  have hj2 : (j : Int) < (n : Int) := by omega
  have HW : Hid (WK (w.setCell ⟨dg, j, none⟩ (.int .i64 d)) P L C ca n cc k g ta nt tc fa nf fc p dg (D.set j d) R ro) := hid_mk ⟨ra, rc, b1.other (q := ⟨dg, j, none⟩) (by show dg ≠ p; omega) _, iv_set b2, by simpa using b3, own_fx (S := fun z => z = dg) b4 ((Fx.refl (fun z => z = dg) _).set (p := ⟨dg, j, none⟩) (.inl rfl) _) (fun z hz e => by
    have := (own_ge b4 hz).1
    omega), b5, b6⟩
  have HJ := hid_mk (And.intro hj (And.intro hs hR))
  have HL : Hid (SW p dg ro w ro (w.setCell ⟨dg, j, none⟩ (.int .i64 d))) := hid_mk ⟨(Fx.refl _ _).set (p := ⟨dg, j, none⟩) (.inl (.inr (.inl rfl))) _, .inl rfl⟩
  clear b1 b2 b3 b4 b5 hj hs hR hx
  go_enter Tryd.func74, Tryd.ntmps74
  go_wp2_with (go_at_call 88; refine (wput_any P L C ca n cc k g ta nt tc fa nf fc HW.out j HJ.out.1 HJ.out.2.1 HJ.out.2.2).mono ?_; rintro e w2 ⟨rfl, ro2, h2, h3⟩; have H2 := hid_mk h2; have H3 := hid_mk h3; clear h2 h3)
  exact bodyPost_end (results_none Tryd.results74 _ _ _) rfl ⟨rfl, ro2, H2.out, HL.out.trans H3.out⟩
theorem WK.quiet {ro : Option Nat} {w w' : World} {P L C : Int} {ca : Option Addr} {n cc : Nat} {k g : Int} {ta : Option Addr} {nt tc : Nat} {fa : Option Addr} {nf fc : Nat} {p dg : Nat} {D : List Int} {R : List Nat} (h : WK w P L C ca n cc k g ta nt tc fa nf fc p dg D R ro) (o : Out 0 0 w w') : WK w' P L C ca n cc k g ta nt tc fa nf fc p dg D R ro := by
  obtain ⟨ra, rc, b1, b2, b3, b4, b5, b6⟩ := h
  exact ⟨ra, rc, b1.kept o (.inr (Nat.zero_le _)), b2.kept o (.inr (Nat.zero_le _)), b3, own_fx (S := fun _ => False) b4 (Fx.of_out o) (fun _ _ z => z), b5, b6⟩
/-- what 'on' leaves -/
def OnQ (w : World) (P L C : Int) (ca : Option Addr) (n cc : Nat) (k g : Int) (ta : Option Addr) (nt tc : Nat) (fa : Option Addr) (nf fc : Nat) (p dg : Nat) (ro : Option Nat) (i : Int) (o : Option (List Int × List Nat)) (e : Ending) (w' : World) : Prop := (∃ s ro', o = some s ∧ e = .returned (.tuple #[]) ∧ WK w' P L C ca n cc k g ta nt tc fa nf fc p dg s.1 s.2 ro' ∧ SW p dg ro w ro' w') ∨ (o = none ∧ e = .panicked [badP 76 k i] ∧ Lo dg w w')
set_option maxHeartbeats 1000000 in
theorem on_any {w : World} (P L C : Int) (ca : Option Addr) (n cc : Nat) (k g : Int) (ta : Option Addr) (nt tc : Nat) (fa : Option Addr) (nf fc : Nat) {p dg : Nat} {D : List Int} {R : List Nat} {ro : Option Nat} (h : WK w P L C ca n cc k g ta nt tc fa nf fc p dg D R ro) (hO : WO n (D, R)) (i : Int) (j : Nat) (d : Int) (hjn : j < n) (hR : R.length ≤ 5000) :
    Calls Tryd.prog 92 #[.pointer (some ⟨p, 0, none⟩), .int .i64 i, .int .i64 j, .int .i64 d] w (OnQ w P L C ca n cc k g ta nt tc fa nf fc p dg ro i (onF (D, R) j d)) := by
  obtain ⟨x, hx⟩ : ∃ x, D[j]? = some x := ⟨_, List.getElem?_eq_getElem (by have := hO.1; simp only [] at this; omega)⟩
  obtain ⟨ra, rc, b1, b2, b3, b4, b5, b6⟩ := h
  have c8 := b1.cell (i := 8) rfl
  have cj := iv_cell b2 hx
  have hj2 : (j : Int) < (n : Int) := by omega
  have HW : Hid (WK w P L C ca n cc k g ta nt tc fa nf fc p dg D R ro) := hid_mk ⟨ra, rc, b1, b2, b3, b4, b5, b6⟩
  have HX := hid_mk hx
  have HN := hid_mk (And.intro hjn (And.intro hR hO))
  by_cases hm : x = -1
  · subst hm
    have e0 : onF (D, R) j d = some (D.set j d, insF j R) := if_pos hx
    rw [e0]
    have HB3 := hid_mk b3
    clear b1 b2 b4 b3 b5 b6 e0 hx hO hR
    go_enter Tryd.func92, Tryd.ntmps92
    go_wp2_with (go_at_call 74; refine (meet_any P L C ca n cc k g ta nt tc fa nf fc HW.out j d HN.out.1 (HN.out.2.2.not HX.out) HN.out.2.2.2.2.1 HN.out.2.1).mono ?_; rintro e w2 ⟨rfl, ro2, h2, h3⟩; have H2 := hid_mk h2; have H3 := hid_mk h3; clear h2 h3)
    obtain ⟨ra2, rc2, B, B2, hl2, -, -, -⟩ := H2.out
    have k0 := B.cell (i := 0) rfl; have k1 := B.cell (i := 1) rfl; have k2 := B.cell (i := 2) rfl; have k3 := B.cell (i := 3) rfl; have k4 := B.cell (i := 4) rfl; have k5 := B.cell (i := 5) rfl; have k6 := B.cell (i := 6) rfl; have k7 := B.cell (i := 7) rfl; have k8 := B.cell (i := 8) rfl
    have dj := iv_cell (j := j) (x := d) B2 (by rw [List.getElem?_set_self (by rw [HB3.out]; exact HN.out.1)])
    clear B B2 hl2
    refine wp_region_held_drew (S := fun w' => w'.cell? ⟨p, 0, none⟩ = some (.int .i64 P) ∧ w'.cell? ⟨p, 1, none⟩ = some (.int .i64 L) ∧ w'.cell? ⟨p, 2, none⟩ = some (.int .i64 C) ∧ w'.cell? ⟨p, 3, none⟩ = some (.slice ca n cc) ∧ w'.cell? ⟨p, 4, none⟩ = some (.int .i64 k) ∧ w'.cell? ⟨p, 5, none⟩ = some (.int .i64 g) ∧ w'.cell? ⟨p, 6, none⟩ = some (.slice ta nt tc) ∧ w'.cell? ⟨p, 7, none⟩ = some (.slice fa nf fc) ∧ w'.cell? ⟨p, 8, none⟩ = some (.slice (some ⟨dg, 0, none⟩) n n) ∧ w'.cell? ⟨dg, j, none⟩ = some (.int .i64 d)) (by kernel_rfl) ?hS1 (fun hHeld => ?rest1)
    case hS1 => exact ⟨k0, k1, k2, k3, k4, k5, k6, k7, k8, dj⟩
    refine tk 0 ?_
    refine tk 1 ?_
    refine tk 2 ?_
    refine tk 3 ?_
    refine tk 4 ?_
    refine tk 5 ?_
    refine tk 6 ?_
    refine tk 7 ?_
    refine tk 8 ?_
    refine tk 9 ?_
    refine tk 10 ?_
    refine tk 11 ?_
    refine tk 12 ?_
    refine tk 13 ?_
    refine wpAnyH_ready (rs := [14]) (by kernel_rfl) (by simp) ?_
    refine AllReadyH.cons rfl (fun KK hK => ?_) AllReadyH.nil
    simp only [xa, xb, xc]
    go_simp
    refine (fwant_yes P L C ca n cc k g ta nt tc fa nf fc _ _ _).mono ?_
    rintro e w9 ⟨rfl, o9⟩
    refine hK.out _ _ ?hS16 (fun hHeld2 => ?rest16)
    case hS16 => exact ⟨o9.cell k0 (.inr (Nat.zero_le _)), o9.cell k1 (.inr (Nat.zero_le _)), o9.cell k2 (.inr (Nat.zero_le _)), o9.cell k3 (.inr (Nat.zero_le _)), o9.cell k4 (.inr (Nat.zero_le _)), o9.cell k5 (.inr (Nat.zero_le _)), o9.cell k6 (.inr (Nat.zero_le _)), o9.cell k7 (.inr (Nat.zero_le _)), o9.cell k8 (.inr (Nat.zero_le _)), o9.cell dj (.inr (Nat.zero_le _))⟩
    clear hK KK
    (try clear hHeld)
    have hHeld := hHeld2
    clear hHeld2
    (try simp only [Act.put, xa, xb, xc, xd, xe, xf])
    refine wpAnyH_done (by kernel_rfl) ?_ _
    exact bodyPost_end (results_none Tryd.results92 _ _ _) rfl (.inl ⟨_, ro2, rfl, rfl, WK.quiet H2.out (((Out.refl 0 0 _).drew).trans o9), H3.out.quiet (((Out.refl 0 0 _).drew).trans o9)⟩)
  · have hm1 : (x == -1) = false := by simpa using hm
    have B := b1
    have k0 := B.cell (i := 0) rfl; have k1 := B.cell (i := 1) rfl; have k2 := B.cell (i := 2) rfl; have k3 := B.cell (i := 3) rfl; have k4 := B.cell (i := 4) rfl; have k5 := B.cell (i := 5) rfl; have k6 := B.cell (i := 6) rfl; have k7 := B.cell (i := 7) rfl; have k8 := B.cell (i := 8) rfl
    have dj := cj
    by_cases hd : x = d
    · subst hd
      have e0 : onF (D, R) j x = some (D, R) := by unfold onF; rw [if_neg (by simp only []; rw [hx]; intro q; exact hm (Option.some.inj q)), if_pos hx]
      rw [e0]
      clear b1 b2 b4 b3 b5 b6 e0 hx hO hR hm B
      go_enter Tryd.func92, Tryd.ntmps92
      go_wp2
      refine wp_region_held_drew (S := fun w' => w'.cell? ⟨p, 0, none⟩ = some (.int .i64 P) ∧ w'.cell? ⟨p, 1, none⟩ = some (.int .i64 L) ∧ w'.cell? ⟨p, 2, none⟩ = some (.int .i64 C) ∧ w'.cell? ⟨p, 3, none⟩ = some (.slice ca n cc) ∧ w'.cell? ⟨p, 4, none⟩ = some (.int .i64 k) ∧ w'.cell? ⟨p, 5, none⟩ = some (.int .i64 g) ∧ w'.cell? ⟨p, 6, none⟩ = some (.slice ta nt tc) ∧ w'.cell? ⟨p, 7, none⟩ = some (.slice fa nf fc) ∧ w'.cell? ⟨p, 8, none⟩ = some (.slice (some ⟨dg, 0, none⟩) n n) ∧ w'.cell? ⟨dg, j, none⟩ = some (.int .i64 x)) (by kernel_rfl) ?hS17 (fun hHeld => ?rest17)
      case hS17 => exact ⟨k0, k1, k2, k3, k4, k5, k6, k7, k8, dj⟩
      refine tk 0 ?_
      refine tk 1 ?_
      refine tk 2 ?_
      refine tk 3 ?_
      refine tk 4 ?_
      refine tk 5 ?_
      refine tk 6 ?_
      refine tk 7 ?_
      refine tk 8 ?_
      refine tk 9 ?_
      refine tk 10 ?_
      refine tk 11 ?_
      refine tk 12 ?_
      refine tk 13 ?_
      refine wpAnyH_ready (rs := [14]) (by kernel_rfl) (by simp) ?_
      refine AllReadyH.cons rfl (fun KK hK => ?_) AllReadyH.nil
      simp only [xa, xb, xc]
      go_simp
      refine (fwant_yes P L C ca n cc k g ta nt tc fa nf fc _ _ _).mono ?_
      rintro e w9 ⟨rfl, o9⟩
      refine hK.out _ _ ?hS32 (fun hHeld2 => ?rest32)
      case hS32 => exact ⟨o9.cell k0 (.inr (Nat.zero_le _)), o9.cell k1 (.inr (Nat.zero_le _)), o9.cell k2 (.inr (Nat.zero_le _)), o9.cell k3 (.inr (Nat.zero_le _)), o9.cell k4 (.inr (Nat.zero_le _)), o9.cell k5 (.inr (Nat.zero_le _)), o9.cell k6 (.inr (Nat.zero_le _)), o9.cell k7 (.inr (Nat.zero_le _)), o9.cell k8 (.inr (Nat.zero_le _)), o9.cell dj (.inr (Nat.zero_le _))⟩
      clear hK KK
      (try clear hHeld)
      have hHeld := hHeld2
      clear hHeld2
      (try simp only [Act.put, xa, xb, xc, xd, xe, xf])
      refine wpAnyH_done (by kernel_rfl) ?_ _
      exact bodyPost_end (results_none Tryd.results92 _ _ _) rfl (.inl ⟨_, ro, rfl, rfl, WK.quiet HW.out (((Out.refl 0 0 _).drew).trans o9), (SW.refl _ _ _ _).quiet (((Out.refl 0 0 _).drew).trans o9)⟩)
    · have e0 : onF (D, R) j d = none := by unfold onF; rw [if_neg (by simp only []; rw [hx]; intro q; exact hm (Option.some.inj q)), if_neg (by simp only []; rw [hx]; intro q; exact hd (Option.some.inj q))]
      rw [e0]
      have hd1 : (x == d) = false := by simpa using hd
      clear b1 b2 b4 b3 b5 b6 e0 hx hO hR hm B hd
      go_enter Tryd.func92, Tryd.ntmps92
      go_wp2
      refine wp_region_held_drew (S := fun w' => w'.cell? ⟨p, 0, none⟩ = some (.int .i64 P) ∧ w'.cell? ⟨p, 1, none⟩ = some (.int .i64 L) ∧ w'.cell? ⟨p, 2, none⟩ = some (.int .i64 C) ∧ w'.cell? ⟨p, 3, none⟩ = some (.slice ca n cc) ∧ w'.cell? ⟨p, 4, none⟩ = some (.int .i64 k) ∧ w'.cell? ⟨p, 5, none⟩ = some (.int .i64 g) ∧ w'.cell? ⟨p, 6, none⟩ = some (.slice ta nt tc) ∧ w'.cell? ⟨p, 7, none⟩ = some (.slice fa nf fc) ∧ w'.cell? ⟨p, 8, none⟩ = some (.slice (some ⟨dg, 0, none⟩) n n) ∧ w'.cell? ⟨dg, j, none⟩ = some (.int .i64 x)) (by kernel_rfl) ?hS33 (fun hHeld => ?rest33)
      case hS33 => exact ⟨k0, k1, k2, k3, k4, k5, k6, k7, k8, dj⟩
      refine tk 0 ?_
      refine tk 1 ?_
      refine tk 2 ?_
      refine tk 3 ?_
      refine tk 4 ?_
      refine tk 5 ?_
      refine tk 6 ?_
      refine tk 7 ?_
      refine tk 8 ?_
      refine tk 9 ?_
      refine tk 10 ?_
      refine tk 11 ?_
      refine tk 12 ?_
      refine tk 13 ?_
      refine wpAnyH_ready (rs := [14]) (by kernel_rfl) (by simp) ?_
      refine AllReadyH.cons rfl (fun KK hK => ?_) AllReadyH.nil
      simp only [xa, xb, xc]
      go_simp
      refine (fwant_no P L C ca n cc k g ta nt tc fa nf fc _ _ _).mono ?_
      rintro e w9 ⟨rfl, o9⟩
      exact ⟨rfl, .inr ⟨rfl, rfl, Fx.of_out (((Out.refl 0 0 _).drew).trans o9)⟩⟩
end Go.Proofs.YthijkfcobkdihaaDoor
