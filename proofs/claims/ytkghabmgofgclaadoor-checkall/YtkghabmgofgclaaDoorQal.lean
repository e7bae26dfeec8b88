import Derived.Test.YtkghabmgofgclaaDoorQak
namespace Go.Proofs.YtkghabmgofgclaaDoor
open Go.RowKit
set_option linter.unusedVariables false
set_option linter.unusedSimpArgs false

set_option maxRecDepth 100000 in
set_option maxHeartbeats 2000000 in
theorem thr_C5 {w : World} {P L C : Int} {q off n cc : Nat} {k g : Int} {ta : Option Addr} {nt tc : Nat} {fa : Option Addr} {nf fc : Nat} {p dg B i : Nat} {D : List Int} {R : List Nat} {ro : Option Nat} {fs : List (Int × Int × Int × List (Int × Int))} {op a di t e1 : Int} (h : WK w P L C (some ⟨q, off, none⟩) n cc k g ta nt tc fa nf fc p dg D R ro) (hq : q < B) (i0 : w.cell? ⟨q, off + i * 2, none⟩ = some (.int .i64 op)) (i1 : w.cell? ⟨q, off + i * 2 + 1, none⟩ = some (.int .i64 a)) (hin : i < n) (hfs : FnIn w B fa fs) (hB : B ≤ dg)
    (HT : Hid (∀ w' : World, FnIn w' B fa fs → B ≤ w'.heap.size → Calls Tryd.prog 102 #[.agg #[.int .i64 P, .int .i64 L, .int .i64 C, .slice (some ⟨q, off, none⟩) n cc, .int .i64 k, .int .i64 g, .slice ta nt tc, .slice fa nf fc], .agg #[.int .i64 op, .int .i64 a]] w' fun x w'' => x = .returned (.int .i64 t) ∧ Out 0 0 w' w'')) (hdi : D[i]? = some di) (hw1 : IntKind.i64.wrap (di - t) = e1) (hwo : WO n (D, R)) (hR : R.length ≤ 4500) {pv e2 : Int} (he : decide (0 ≤ e1) = true) (HP : Hid (∀ w : World, Calls Tryd.prog 103 #[.int .i64 op] w fun x w' => x = .returned (.int .i64 pv) ∧ w' = w)) (hw2 : wrap64 (e1 + pv) = e2) (he2 : decide (e2 ≤ 64) = true) (HG : Hid (∀ w : World, Calls Tryd.prog 104 #[.int .i64 op] w fun x w' => x = .returned (.bool true) ∧ w' = w)) {m : Nat} (hm1 : IntKind.i64.wrap ((i : Int) + 1) = (m : Int)) (hm2 : wrap64 ((i : Int) + 1) = (m : Int)) (hmn : m < n) (hlt : decide ((m : Int) < (n : Int)) = true) (hlt2 : decide (m < n) = true) (HJ : Hid (∀ w : World, Calls Tryd.prog 70 #[.int .i64 op] w fun x w' => x = .returned (.bool false) ∧ w' = w)) {s1 : List Int × List Nat} (ho : onF (D, R) m e2 = some s1) :
    Calls Tryd.prog 91 #[.pointer (some ⟨p, 0, none⟩), .int .i64 i] w (ThQ w P L C (some ⟨q, off, none⟩) n cc k g ta nt tc fa nf fc p dg ro i (.inr s1)) := by
  have HZ := hid_mk (h.off (Nat.le_refl _))
  obtain ⟨ra, rc, BB, b2, b3, b4, b5, b6⟩ := h
  have hpl := BB.lt
  have dj := iv_cell b2 hdi
  have HW : Hid (WK w P L C (some ⟨q, off, none⟩) n cc k g ta nt tc fa nf fc p dg D R ro) := hid_mk ⟨ra, rc, BB, b2, b3, b4, b5, b6⟩
  obtain ⟨G, hG⟩ : ∃ G, w.heap.size = G := ⟨_, rfl⟩
  obtain ⟨V, hV⟩ : ∃ V, w.alloc (.cells #[.int .i64 op, .int .i64 a] 61) = V := ⟨_, rfl⟩
  have oV : Out 0 0 w V := by rw [← hV]; exact (Out.refl 0 0 w).alloc _
  have bI : Bl V G #[.int .i64 op, .int .i64 a] 61 := by rw [← hV, ← hG]; exact Bl.new _ _ _
  have BK := BB.kept oV (.inr (Nat.zero_le _))
  have c3 := BB.cell (i := 3) rfl
  have k0 := BK.cell (i := 0) rfl; have k1 := BK.cell (i := 1) rfl; have k2 := BK.cell (i := 2) rfl; have k3 := BK.cell (i := 3) rfl; have k4 := BK.cell (i := 4) rfl; have k5 := BK.cell (i := 5) rfl; have k6 := BK.cell (i := 6) rfl; have k7 := BK.cell (i := 7) rfl; have k8 := BK.cell (i := 8) rfl
  have x0 := bI.cell (i := 0) rfl
  have x1 := bI.cell (i := 1) rfl
  have dj := oV.cell dj (.inr (Nat.zero_le _))
  have HFS := hid_mk (hfs.kept (C := B) (Lo.of_out oV) (Nat.le_refl _))
  have HBB : Hid (B ≤ V.heap.size) := hid_mk (Nat.le_trans hB (Nat.le_trans (Nat.le_of_lt (Nat.lt_trans b5 hpl)) oV.size))
  have HO := hid_mk oV
  have hii : (i : Int) < (n : Int) := by omega
  have hi0 : (0 : Int) ≤ (i : Int) := by omega
  rw [hG] at HZ
  clear BB b2 b3 b4 b5 b6 BK hpl hfs hB hdi oV bI hq
  go_enter Tryd.func91, Tryd.ntmps91
  go_wp2_with fail
  (try rw [hV])
  (try rw [hG])
  clear hV hG i0 i1 c3
  refine wp_region_held_drew (S := fun w' => w'.cell? ⟨p, 0, none⟩ = some (.int .i64 P) ∧ w'.cell? ⟨p, 1, none⟩ = some (.int .i64 L) ∧ w'.cell? ⟨p, 2, none⟩ = some (.int .i64 C) ∧ w'.cell? ⟨p, 3, none⟩ = some (.slice (some ⟨q, off, none⟩) n cc) ∧ w'.cell? ⟨p, 4, none⟩ = some (.int .i64 k) ∧ w'.cell? ⟨p, 5, none⟩ = some (.int .i64 g) ∧ w'.cell? ⟨p, 6, none⟩ = some (.slice ta nt tc) ∧ w'.cell? ⟨p, 7, none⟩ = some (.slice fa nf fc) ∧ w'.cell? ⟨p, 8, none⟩ = some (.slice (some ⟨dg, 0, none⟩) n n) ∧ w'.cell? ⟨dg, i, none⟩ = some (.int .i64 di) ∧ w'.cell? ⟨G, 0, none⟩ = some (.int .i64 op) ∧ w'.cell? ⟨G, 1, none⟩ = some (.int .i64 a)) (by kernel_rfl) ?hS1 (fun hHeld => ?rest1)
  case hS1 => exact ⟨k0, k1, k2, k3, k4, k5, k6, k7, k8, dj, x0, x1⟩
  refine tk 0 ?_
  refine tk 1 ?_
  refine tk 2 ?_
  refine tk 3 ?_
  refine tk 4 ?_
  refine tk 5 ?_
  refine tk 6 ?_
  refine tk 7 ?_
  refine tk 8 ?_
  refine tk 9 ?_
  refine tk 10 ?_
  refine tk 11 ?_
  refine wpAnyH_ready (rs := [12]) (by kernel_rfl) (by simp) ?_
  refine AllReadyH.cons rfl (fun KK hK => ?_) AllReadyH.nil
  simp only [xa, xb, xc]
  go_simp
  refine (HT.out _ (HFS.out.kept (Lo.of_out ((Out.refl 0 0 V).drew)) (Nat.le_refl _)) HBB.out).mono ?_
  rintro e w9 ⟨rfl, o8⟩
  have o9 : Out 0 0 V w9 := ((Out.refl 0 0 V).drew).trans o8
  clear o8
  refine hK.out _ _ ?hS14 (fun hHeld2 => ?rest14)
  case hS14 => exact ⟨o9.cell k0 (.inr (Nat.zero_le _)), o9.cell k1 (.inr (Nat.zero_le _)), o9.cell k2 (.inr (Nat.zero_le _)), o9.cell k3 (.inr (Nat.zero_le _)), o9.cell k4 (.inr (Nat.zero_le _)), o9.cell k5 (.inr (Nat.zero_le _)), o9.cell k6 (.inr (Nat.zero_le _)), o9.cell k7 (.inr (Nat.zero_le _)), o9.cell k8 (.inr (Nat.zero_le _)), o9.cell dj (.inr (Nat.zero_le _)), o9.cell x0 (.inr (Nat.zero_le _)), o9.cell x1 (.inr (Nat.zero_le _))⟩
  clear hK KK
  (try clear hHeld)
  have hHeld := hHeld2
  clear hHeld2
  (try simp only [Act.put, xa, xb, xc, xd, xe, xf])
  refine tk 13 ?_
  refine tk 14 ?_
  refine wpAnyH_done (by kernel_rfl) ?_ _
  clear hHeld
  replace k0 := o9.cell k0 (.inr (Nat.zero_le _)); replace k1 := o9.cell k1 (.inr (Nat.zero_le _)); replace k2 := o9.cell k2 (.inr (Nat.zero_le _)); replace k3 := o9.cell k3 (.inr (Nat.zero_le _)); replace k4 := o9.cell k4 (.inr (Nat.zero_le _)); replace k5 := o9.cell k5 (.inr (Nat.zero_le _)); replace k6 := o9.cell k6 (.inr (Nat.zero_le _)); replace k7 := o9.cell k7 (.inr (Nat.zero_le _)); replace k8 := o9.cell k8 (.inr (Nat.zero_le _))
  replace x0 := o9.cell x0 (.inr (Nat.zero_le _)); replace x1 := o9.cell x1 (.inr (Nat.zero_le _))
  replace HO := hid_mk (HO.out.trans o9)
  clear o9 dj HT HFS HBB
  have HWO := hid_mk hwo
  have HR : Hid (R.length ≤ 5000) := hid_mk (by omega)
  have HM := hid_mk hmn
  clear hwo hR hmn
  go_wp2_with (first | (go_at_call 103; refine calls_same (HP.out _) ?_) | (go_at_call 68; refine (fwant_yes P L C (some ⟨q, off, none⟩) n cc k g ta nt tc fa nf fc _ _ _).mono ?_; rintro e w9 ⟨rfl, o9⟩; replace k0 := o9.cell k0 (.inr (Nat.zero_le _)); replace k1 := o9.cell k1 (.inr (Nat.zero_le _)); replace k2 := o9.cell k2 (.inr (Nat.zero_le _)); replace k3 := o9.cell k3 (.inr (Nat.zero_le _)); replace k4 := o9.cell k4 (.inr (Nat.zero_le _)); replace k5 := o9.cell k5 (.inr (Nat.zero_le _)); replace k6 := o9.cell k6 (.inr (Nat.zero_le _)); replace k7 := o9.cell k7 (.inr (Nat.zero_le _)); replace k8 := o9.cell k8 (.inr (Nat.zero_le _)); replace x0 := o9.cell x0 (.inr (Nat.zero_le _)); replace x1 := o9.cell x1 (.inr (Nat.zero_le _)); replace HO := hid_mk (HO.out.trans o9); clear o9) | (go_at_call 104; refine calls_same (HG.out _) ?_))
  refine wp_region_held_drew (S := fun w' => w'.cell? ⟨p, 0, none⟩ = some (.int .i64 P) ∧ w'.cell? ⟨p, 1, none⟩ = some (.int .i64 L) ∧ w'.cell? ⟨p, 2, none⟩ = some (.int .i64 C) ∧ w'.cell? ⟨p, 3, none⟩ = some (.slice (some ⟨q, off, none⟩) n cc) ∧ w'.cell? ⟨p, 4, none⟩ = some (.int .i64 k) ∧ w'.cell? ⟨p, 5, none⟩ = some (.int .i64 g) ∧ w'.cell? ⟨p, 6, none⟩ = some (.slice ta nt tc) ∧ w'.cell? ⟨p, 7, none⟩ = some (.slice fa nf fc) ∧ w'.cell? ⟨p, 8, none⟩ = some (.slice (some ⟨dg, 0, none⟩) n n) ∧ w'.cell? ⟨G, 0, none⟩ = some (.int .i64 op) ∧ w'.cell? ⟨G, 1, none⟩ = some (.int .i64 a)) (by kernel_rfl) ?hS17 (fun hHeld => ?rest17)
  case hS17 => exact ⟨k0, k1, k2, k3, k4, k5, k6, k7, k8, x0, x1⟩
  refine tk 0 ?_
  refine tk 1 ?_
  refine tk 2 ?_
  refine tk 3 ?_
  refine tk 4 ?_
  refine tk 5 ?_
  refine tk 6 ?_
  refine tk 7 ?_
  refine tk 8 ?_
  refine tk 9 ?_
  refine tk 10 ?_
  refine tk 11 ?_
  refine tk 12 ?_
  refine tk 13 ?_
  refine tk 14 ?_
  refine wpAnyH_ready (rs := [15]) (by kernel_rfl) (by simp) ?_
  refine AllReadyH.cons rfl (fun KK hK => ?_) AllReadyH.nil
  simp only [xa, xb, xc]
  go_simp
  refine (fwant_yes P L C (some ⟨q, off, none⟩) n cc k g ta nt tc fa nf fc _ _ _).mono ?_
  rintro e w9 ⟨rfl, o8⟩
  have o9 := ((Out.refl 0 0 _).drew).trans o8
  clear o8
  refine hK.out _ _ ?hS33 (fun hHeld2 => ?rest33)
  case hS33 => exact ⟨o9.cell k0 (.inr (Nat.zero_le _)), o9.cell k1 (.inr (Nat.zero_le _)), o9.cell k2 (.inr (Nat.zero_le _)), o9.cell k3 (.inr (Nat.zero_le _)), o9.cell k4 (.inr (Nat.zero_le _)), o9.cell k5 (.inr (Nat.zero_le _)), o9.cell k6 (.inr (Nat.zero_le _)), o9.cell k7 (.inr (Nat.zero_le _)), o9.cell k8 (.inr (Nat.zero_le _)), o9.cell x0 (.inr (Nat.zero_le _)), o9.cell x1 (.inr (Nat.zero_le _))⟩
  clear hK KK
  (try clear hHeld)
  have hHeld := hHeld2
  clear hHeld2
  (try simp only [Act.put, xa, xb, xc, xd, xe, xf])
  refine wpAnyH_done (by kernel_rfl) ?_ _
  clear hHeld
  replace k0 := o9.cell k0 (.inr (Nat.zero_le _)); replace k1 := o9.cell k1 (.inr (Nat.zero_le _)); replace k2 := o9.cell k2 (.inr (Nat.zero_le _)); replace k3 := o9.cell k3 (.inr (Nat.zero_le _)); replace k4 := o9.cell k4 (.inr (Nat.zero_le _)); replace k5 := o9.cell k5 (.inr (Nat.zero_le _)); replace k6 := o9.cell k6 (.inr (Nat.zero_le _)); replace k7 := o9.cell k7 (.inr (Nat.zero_le _)); replace k8 := o9.cell k8 (.inr (Nat.zero_le _))
  replace x0 := o9.cell x0 (.inr (Nat.zero_le _)); replace x1 := o9.cell x1 (.inr (Nat.zero_le _))
  replace HO := hid_mk (HO.out.trans o9)
  clear o9
  go_wp2_with fail
  refine (on_any P L C (some ⟨q, off, none⟩) n cc k g ta nt tc fa nf fc (WK.quiet HW.out HO.out) HWO.out _ m _ HM.out HR.out).mono ?_
  rintro e w7 (⟨s, ro', z1, rfl, z2, z3⟩ | ⟨z1, rfl, z2⟩)
  · obtain rfl : s1 = s := by rw [ho] at z1; exact Option.some.inj z1
    replace x0 := z3.cell x0 HZ.out.1 HZ.out.2.1 HZ.out.2.2
    have HW7 := hid_mk z2
    have HS7 := hid_mk (SW.ahead HO.out z3)
    clear z1 z2 z3 ho k0 k1 k2 k3 k4 k5 k6 k7 k8
    go_wp2_with (go_at_call 70; refine calls_same (HJ.out _) ?_)
    exact bodyPost_end (results_none Tryd.results91 _ _ _) rfl (.inl ⟨_, _, rfl, rfl, HW7.out, HS7.out⟩)
  · rw [ho] at z1; cases z1
end Go.Proofs.YtkghabmgofgclaaDoor
namespace Go.Proofs.YtkghabmgofgclaaDoor
open Go.RowKit
set_option linter.unusedVariables false
set_option linter.unusedSimpArgs false

set_option maxRecDepth 100000 in
set_option maxHeartbeats 2000000 in
theorem thr_C6 {w : World} {P L C : Int} {q off n cc : Nat} {k g : Int} {ta : Option Addr} {nt tc : Nat} {fa : Option Addr} {nf fc : Nat} {p dg B i : Nat} {D : List Int} {R : List Nat} {ro : Option Nat} {fs : List (Int × Int × Int × List (Int × Int))} {op a di t e1 : Int} (h : WK w P L C (some ⟨q, off, none⟩) n cc k g ta nt tc fa nf fc p dg D R ro) (hq : q < B) (i0 : w.cell? ⟨q, off + i * 2, none⟩ = some (.int .i64 op)) (i1 : w.cell? ⟨q, off + i * 2 + 1, none⟩ = some (.int .i64 a)) (hin : i < n) (hfs : FnIn w B fa fs) (hB : B ≤ dg)
    (HT : Hid (∀ w' : World, FnIn w' B fa fs → B ≤ w'.heap.size → Calls Tryd.prog 102 #[.agg #[.int .i64 P, .int .i64 L, .int .i64 C, .slice (some ⟨q, off, none⟩) n cc, .int .i64 k, .int .i64 g, .slice ta nt tc, .slice fa nf fc], .agg #[.int .i64 op, .int .i64 a]] w' fun x w'' => x = .returned (.int .i64 t) ∧ Out 0 0 w' w'')) (hdi : D[i]? = some di) (hw1 : IntKind.i64.wrap (di - t) = e1) (hwo : WO n (D, R)) (hR : R.length ≤ 4500) {pv e2 : Int} (he : decide (0 ≤ e1) = true) (HP : Hid (∀ w : World, Calls Tryd.prog 103 #[.int .i64 op] w fun x w' => x = .returned (.int .i64 pv) ∧ w' = w)) (hw2 : wrap64 (e1 + pv) = e2) (he2 : decide (e2 ≤ 64) = true) (HG : Hid (∀ w : World, Calls Tryd.prog 104 #[.int .i64 op] w fun x w' => x = .returned (.bool true) ∧ w' = w)) {m : Nat} (hm1 : IntKind.i64.wrap ((i : Int) + 1) = (m : Int)) (hm2 : wrap64 ((i : Int) + 1) = (m : Int)) (hmn : m < n) (hlt : decide ((m : Int) < (n : Int)) = true) (hlt2 : decide (m < n) = true) (HJ : Hid (∀ w : World, Calls Tryd.prog 70 #[.int .i64 op] w fun x w' => x = .returned (.bool true) ∧ w' = w)) {s1 : List Int × List Nat} (ho : onF (D, R) m e2 = some s1) {mj : Nat} (hmj : mj < n) (ham : a = (mj : Int)) {o : Option (List Int × List Nat)} (hs1 : WO n s1 ∧ s1.2.length ≤ 5000) (ho2 : onF s1 mj e2 = o) :
    Calls Tryd.prog 91 #[.pointer (some ⟨p, 0, none⟩), .int .i64 i] w (ThQ w P L C (some ⟨q, off, none⟩) n cc k g ta nt tc fa nf fc p dg ro i (ofO o)) := by
  have HAM := hid_mk ham
  clear ham
  have HZ := hid_mk (h.off (Nat.le_refl _))
  obtain ⟨ra, rc, BB, b2, b3, b4, b5, b6⟩ := h
  have hpl := BB.lt
  have dj := iv_cell b2 hdi
  have HW : Hid (WK w P L C (some ⟨q, off, none⟩) n cc k g ta nt tc fa nf fc p dg D R ro) := hid_mk ⟨ra, rc, BB, b2, b3, b4, b5, b6⟩
  obtain ⟨G, hG⟩ : ∃ G, w.heap.size = G := ⟨_, rfl⟩
  obtain ⟨V, hV⟩ : ∃ V, w.alloc (.cells #[.int .i64 op, .int .i64 a] 61) = V := ⟨_, rfl⟩
  have oV : Out 0 0 w V := by rw [← hV]; exact (Out.refl 0 0 w).alloc _
  have bI : Bl V G #[.int .i64 op, .int .i64 a] 61 := by rw [← hV, ← hG]; exact Bl.new _ _ _
  have BK := BB.kept oV (.inr (Nat.zero_le _))
  have c3 := BB.cell (i := 3) rfl
  have k0 := BK.cell (i := 0) rfl; have k1 := BK.cell (i := 1) rfl; have k2 := BK.cell (i := 2) rfl; have k3 := BK.cell (i := 3) rfl; have k4 := BK.cell (i := 4) rfl; have k5 := BK.cell (i := 5) rfl; have k6 := BK.cell (i := 6) rfl; have k7 := BK.cell (i := 7) rfl; have k8 := BK.cell (i := 8) rfl
  have x0 := bI.cell (i := 0) rfl
  have x1 := bI.cell (i := 1) rfl
  have dj := oV.cell dj (.inr (Nat.zero_le _))
  have HFS := hid_mk (hfs.kept (C := B) (Lo.of_out oV) (Nat.le_refl _))
  have HBB : Hid (B ≤ V.heap.size) := hid_mk (Nat.le_trans hB (Nat.le_trans (Nat.le_of_lt (Nat.lt_trans b5 hpl)) oV.size))
  have HO := hid_mk oV
  have hii : (i : Int) < (n : Int) := by omega
  have hi0 : (0 : Int) ≤ (i : Int) := by omega
  rw [hG] at HZ
  clear BB b2 b3 b4 b5 b6 BK hpl hfs hB hdi oV bI hq
  go_enter Tryd.func91, Tryd.ntmps91
  go_wp2_with fail
  (try rw [hV])
  (try rw [hG])
  clear hV hG i0 i1 c3
  refine wp_region_held_drew (S := fun w' => w'.cell? ⟨p, 0, none⟩ = some (.int .i64 P) ∧ w'.cell? ⟨p, 1, none⟩ = some (.int .i64 L) ∧ w'.cell? ⟨p, 2, none⟩ = some (.int .i64 C) ∧ w'.cell? ⟨p, 3, none⟩ = some (.slice (some ⟨q, off, none⟩) n cc) ∧ w'.cell? ⟨p, 4, none⟩ = some (.int .i64 k) ∧ w'.cell? ⟨p, 5, none⟩ = some (.int .i64 g) ∧ w'.cell? ⟨p, 6, none⟩ = some (.slice ta nt tc) ∧ w'.cell? ⟨p, 7, none⟩ = some (.slice fa nf fc) ∧ w'.cell? ⟨p, 8, none⟩ = some (.slice (some ⟨dg, 0, none⟩) n n) ∧ w'.cell? ⟨dg, i, none⟩ = some (.int .i64 di) ∧ w'.cell? ⟨G, 0, none⟩ = some (.int .i64 op) ∧ w'.cell? ⟨G, 1, none⟩ = some (.int .i64 a)) (by kernel_rfl) ?hS1 (fun hHeld => ?rest1)
  case hS1 => exact ⟨k0, k1, k2, k3, k4, k5, k6, k7, k8, dj, x0, x1⟩
  refine tk 0 ?_
  refine tk 1 ?_
  refine tk 2 ?_
  refine tk 3 ?_
  refine tk 4 ?_
  refine tk 5 ?_
  refine tk 6 ?_
  refine tk 7 ?_
  refine tk 8 ?_
  refine tk 9 ?_
  refine tk 10 ?_
  refine tk 11 ?_
  refine wpAnyH_ready (rs := [12]) (by kernel_rfl) (by simp) ?_
  refine AllReadyH.cons rfl (fun KK hK => ?_) AllReadyH.nil
  simp only [xa, xb, xc]
  go_simp
  refine (HT.out _ (HFS.out.kept (Lo.of_out ((Out.refl 0 0 V).drew)) (Nat.le_refl _)) HBB.out).mono ?_
  rintro e w9 ⟨rfl, o8⟩
  have o9 : Out 0 0 V w9 := ((Out.refl 0 0 V).drew).trans o8
  clear o8
  refine hK.out _ _ ?hS14 (fun hHeld2 => ?rest14)
  case hS14 => exact ⟨o9.cell k0 (.inr (Nat.zero_le _)), o9.cell k1 (.inr (Nat.zero_le _)), o9.cell k2 (.inr (Nat.zero_le _)), o9.cell k3 (.inr (Nat.zero_le _)), o9.cell k4 (.inr (Nat.zero_le _)), o9.cell k5 (.inr (Nat.zero_le _)), o9.cell k6 (.inr (Nat.zero_le _)), o9.cell k7 (.inr (Nat.zero_le _)), o9.cell k8 (.inr (Nat.zero_le _)), o9.cell dj (.inr (Nat.zero_le _)), o9.cell x0 (.inr (Nat.zero_le _)), o9.cell x1 (.inr (Nat.zero_le _))⟩
  clear hK KK
  (try clear hHeld)
  have hHeld := hHeld2
  clear hHeld2
  (try simp only [Act.put, xa, xb, xc, xd, xe, xf])
  refine tk 13 ?_
  refine tk 14 ?_
  refine wpAnyH_done (by kernel_rfl) ?_ _
  clear hHeld
  replace k0 := o9.cell k0 (.inr (Nat.zero_le _)); replace k1 := o9.cell k1 (.inr (Nat.zero_le _)); replace k2 := o9.cell k2 (.inr (Nat.zero_le _)); replace k3 := o9.cell k3 (.inr (Nat.zero_le _)); replace k4 := o9.cell k4 (.inr (Nat.zero_le _)); replace k5 := o9.cell k5 (.inr (Nat.zero_le _)); replace k6 := o9.cell k6 (.inr (Nat.zero_le _)); replace k7 := o9.cell k7 (.inr (Nat.zero_le _)); replace k8 := o9.cell k8 (.inr (Nat.zero_le _))
  replace x0 := o9.cell x0 (.inr (Nat.zero_le _)); replace x1 := o9.cell x1 (.inr (Nat.zero_le _))
  replace HO := hid_mk (HO.out.trans o9)
  clear o9 dj HT HFS HBB
  have HWO := hid_mk hwo
  have HR : Hid (R.length ≤ 5000) := hid_mk (by omega)
  have HM := hid_mk hmn
  clear hwo hR hmn
  go_wp2_with (first | (go_at_call 103; refine calls_same (HP.out _) ?_) | (go_at_call 68; refine (fwant_yes P L C (some ⟨q, off, none⟩) n cc k g ta nt tc fa nf fc _ _ _).mono ?_; rintro e w9 ⟨rfl, o9⟩; replace k0 := o9.cell k0 (.inr (Nat.zero_le _)); replace k1 := o9.cell k1 (.inr (Nat.zero_le _)); replace k2 := o9.cell k2 (.inr (Nat.zero_le _)); replace k3 := o9.cell k3 (.inr (Nat.zero_le _)); replace k4 := o9.cell k4 (.inr (Nat.zero_le _)); replace k5 := o9.cell k5 (.inr (Nat.zero_le _)); replace k6 := o9.cell k6 (.inr (Nat.zero_le _)); replace k7 := o9.cell k7 (.inr (Nat.zero_le _)); replace k8 := o9.cell k8 (.inr (Nat.zero_le _)); replace x0 := o9.cell x0 (.inr (Nat.zero_le _)); replace x1 := o9.cell x1 (.inr (Nat.zero_le _)); replace HO := hid_mk (HO.out.trans o9); clear o9) | (go_at_call 104; refine calls_same (HG.out _) ?_))
  refine wp_region_held_drew (S := fun w' => w'.cell? ⟨p, 0, none⟩ = some (.int .i64 P) ∧ w'.cell? ⟨p, 1, none⟩ = some (.int .i64 L) ∧ w'.cell? ⟨p, 2, none⟩ = some (.int .i64 C) ∧ w'.cell? ⟨p, 3, none⟩ = some (.slice (some ⟨q, off, none⟩) n cc) ∧ w'.cell? ⟨p, 4, none⟩ = some (.int .i64 k) ∧ w'.cell? ⟨p, 5, none⟩ = some (.int .i64 g) ∧ w'.cell? ⟨p, 6, none⟩ = some (.slice ta nt tc) ∧ w'.cell? ⟨p, 7, none⟩ = some (.slice fa nf fc) ∧ w'.cell? ⟨p, 8, none⟩ = some (.slice (some ⟨dg, 0, none⟩) n n) ∧ w'.cell? ⟨G, 0, none⟩ = some (.int .i64 op) ∧ w'.cell? ⟨G, 1, none⟩ = some (.int .i64 a)) (by kernel_rfl) ?hS17 (fun hHeld => ?rest17)
  case hS17 => exact ⟨k0, k1, k2, k3, k4, k5, k6, k7, k8, x0, x1⟩
  refine tk 0 ?_
  refine tk 1 ?_
  refine tk 2 ?_
  refine tk 3 ?_
  refine tk 4 ?_
  refine tk 5 ?_
  refine tk 6 ?_
  refine tk 7 ?_
  refine tk 8 ?_
  refine tk 9 ?_
  refine tk 10 ?_
  refine tk 11 ?_
  refine tk 12 ?_
  refine tk 13 ?_
  refine tk 14 ?_
  refine wpAnyH_ready (rs := [15]) (by kernel_rfl) (by simp) ?_
  refine AllReadyH.cons rfl (fun KK hK => ?_) AllReadyH.nil
  simp only [xa, xb, xc]
  go_simp
  refine (fwant_yes P L C (some ⟨q, off, none⟩) n cc k g ta nt tc fa nf fc _ _ _).mono ?_
  rintro e w9 ⟨rfl, o8⟩
  have o9 := ((Out.refl 0 0 _).drew).trans o8
  clear o8
  refine hK.out _ _ ?hS33 (fun hHeld2 => ?rest33)
  case hS33 => exact ⟨o9.cell k0 (.inr (Nat.zero_le _)), o9.cell k1 (.inr (Nat.zero_le _)), o9.cell k2 (.inr (Nat.zero_le _)), o9.cell k3 (.inr (Nat.zero_le _)), o9.cell k4 (.inr (Nat.zero_le _)), o9.cell k5 (.inr (Nat.zero_le _)), o9.cell k6 (.inr (Nat.zero_le _)), o9.cell k7 (.inr (Nat.zero_le _)), o9.cell k8 (.inr (Nat.zero_le _)), o9.cell x0 (.inr (Nat.zero_le _)), o9.cell x1 (.inr (Nat.zero_le _))⟩
  clear hK KK
  (try clear hHeld)
  have hHeld := hHeld2
  clear hHeld2
  (try simp only [Act.put, xa, xb, xc, xd, xe, xf])
  refine wpAnyH_done (by kernel_rfl) ?_ _
  clear hHeld
  replace k0 := o9.cell k0 (.inr (Nat.zero_le _)); replace k1 := o9.cell k1 (.inr (Nat.zero_le _)); replace k2 := o9.cell k2 (.inr (Nat.zero_le _)); replace k3 := o9.cell k3 (.inr (Nat.zero_le _)); replace k4 := o9.cell k4 (.inr (Nat.zero_le _)); replace k5 := o9.cell k5 (.inr (Nat.zero_le _)); replace k6 := o9.cell k6 (.inr (Nat.zero_le _)); replace k7 := o9.cell k7 (.inr (Nat.zero_le _)); replace k8 := o9.cell k8 (.inr (Nat.zero_le _))
  replace x0 := o9.cell x0 (.inr (Nat.zero_le _)); replace x1 := o9.cell x1 (.inr (Nat.zero_le _))
  replace HO := hid_mk (HO.out.trans o9)
  clear o9
  go_wp2_with fail
  refine (on_any P L C (some ⟨q, off, none⟩) n cc k g ta nt tc fa nf fc (WK.quiet HW.out HO.out) HWO.out _ m _ HM.out HR.out).mono ?_
  rintro e w7 (⟨s, ro', z1, rfl, z2, z3⟩ | ⟨z1, rfl, z2⟩)
  · obtain rfl : s1 = s := by rw [ho] at z1; exact Option.some.inj z1
    replace x0 := z3.cell x0 HZ.out.1 HZ.out.2.1 HZ.out.2.2
    replace x1 := z3.cell x1 HZ.out.1 HZ.out.2.1 HZ.out.2.2
    have HW7 := hid_mk z2
    have HS7 := hid_mk (SW.ahead HO.out z3)
    have H8 := hid_mk (And.intro hs1 (And.intro hmj ho2))
    have HL7 := hid_mk ((Fx.of_out HO.out).trans ((WK.quiet HW.out HO.out).lo z3))
    clear z1 z2 z3 ho k0 k1 k2 k3 k4 k5 k6 k7 k8 hs1 hmj ho2
    go_wp2_with (first | (go_at_call 70; refine calls_same (HJ.out _) ?_) | (go_at_call 105; refine (on_at P L C (some ⟨q, off, none⟩) n cc k g ta nt tc fa nf fc HW7.out H8.out.1.1 _ mj _ _ HAM.out H8.out.2.1 H8.out.1.2).mono ?_))
    rintro e w8 (⟨s, ro9, z1, rfl, z2, z3⟩ | ⟨z1, rfl, z2⟩)
    · have : o = some s := H8.out.2.2.symm.trans z1
      subst this
      have Z2 := hid_mk z2
      have Z3 := hid_mk z3
      clear z1 z2 z3
      go_wp2
      exact bodyPost_end (results_none Tryd.results91 _ _ _) rfl (.inl ⟨_, ro9, rfl, rfl, Z2.out, HS7.out.trans Z3.out⟩)
    · have : o = none := H8.out.2.2.symm.trans z1
      subst this
      exact ⟨rfl, .inr ⟨76, rfl, rfl, HL7.out.trans z2⟩⟩
  · rw [ho] at z1; cases z1
end Go.Proofs.YtkghabmgofgclaaDoor
namespace Go.Proofs.YtkghabmgofgclaaDoor
open Go.RowKit
set_option linter.unusedVariables false
set_option linter.unusedSimpArgs false

theorem wr_sub {di t : Int} (h1 : -1 ≤ di ∧ di ≤ 64) (h2 : 0 ≤ t ∧ t ≤ 64) : IntKind.i64.wrap (di - t) = di - t := by
  simp [IntKind.wrap, IntKind.signed, IntKind.bits]; omega
theorem wr_add {e1 pv : Int} (h1 : -65 ≤ e1 ∧ e1 ≤ 64) (h2 : 0 ≤ pv ∧ pv ≤ 2) : wrap64 (e1 + pv) = e1 + pv := by unfold wrap64; omega
theorem wr_one {i : Nat} (h : i ≤ 5000) : IntKind.i64.wrap ((i : Int) + 1) = ((i + 1 : Nat) : Int) ∧ wrap64 ((i : Int) + 1) = ((i + 1 : Nat) : Int) := by
  constructor
  · simp [IntKind.wrap, IntKind.signed, IntKind.bits]; omega
  · unfold wrap64; omega
theorem pt_le (op : Int) : ptV op ≤ 2 := by unfold ptV; split; decide; split <;> decide
theorem on_len {s s' : List Int × List Nat} {j : Nat} {d : Int} (h : onF s j d = some s') : s'.2.length ≤ s.2.length + 1 := by
  unfold onF at h
  split at h
  · cases h; simp [ins_len]
  · split at h
    · cases h; omega
    · cases h
theorem in_cells {w : World} {B i : Nat} {ca : Option Addr} {cd : List (Int × Int)} {op a : Int} (h : InIn w B ca cd) (hx : cd[i]? = some (op, a)) : ∃ q off, ca = some ⟨q, off, none⟩ ∧ q < B ∧ w.cell? ⟨q, off + i * 2, none⟩ = some (.int .i64 op) ∧ w.cell? ⟨q, off + i * 2 + 1, none⟩ = some (.int .i64 a) := by
  rcases h with h | ⟨q, off, h1, h2, h3⟩
  · rw [h] at hx; simp at hx
  · obtain ⟨c1, c2⟩ := h3 i _ hx
    exact ⟨q, off, h1, h2, c1, c2⟩
theorem st_74 {t di : Int} {n i : Nat} {x : Int × Int} {s : List Int × List Nat} (hg : s.1.getD i 0 = di) (c1 : di - t < 0) : stF t n i x s = .inl 74 := by
  unfold stF; rw [if_pos (by rw [hg]; exact c1)]
theorem st_75 {t di : Int} {n i : Nat} {x : Int × Int} {s : List Int × List Nat} (hg : s.1.getD i 0 = di) (c1 : ¬ di - t < 0) (c2 : 64 < di - t + ptV x.1) : stF t n i x s = .inl 75 := by
  unfold stF; rw [if_neg (by rw [hg]; exact c1), if_pos (by rw [hg]; exact c2)]
theorem st_er {t di e : Int} {n i : Nat} {x : Int × Int} {s : List Int × List Nat} (hg : s.1.getD i 0 = di) (c1 : ¬ di - t < 0) (c2 : ¬ 64 < di - t + ptV x.1) (h : nxF n i x.1 (di - t + ptV x.1) s = .inl e) : stF t n i x s = .inl e := by
  unfold stF; rw [if_neg (by rw [hg]; exact c1), if_neg (by rw [hg]; exact c2), hg, h]
theorem st_go {t di : Int} {n i : Nat} {x : Int × Int} {s s1 : List Int × List Nat} (hg : s.1.getD i 0 = di) (c1 : ¬ di - t < 0) (c2 : ¬ 64 < di - t + ptV x.1) (h : nxF n i x.1 (di - t + ptV x.1) s = .inr s1) : stF t n i x s = juF x.1 x.2 (di - t + ptV x.1) s1 := by
  unfold stF; rw [if_neg (by rw [hg]; exact c1), if_neg (by rw [hg]; exact c2), hg, h]
theorem ju_of {op a d : Int} {s : List Int × List Nat} (h : juB op = true) : juF op a d s = ofO (onF s a.toNat d) := by
  unfold juF ofO; rw [if_pos h]
  rcases onF s a.toNat d with _ | s2 <;> rfl
theorem lt_dec {m n : Nat} (h : m < n) : decide ((m : Int) < (n : Int)) = true ∧ decide (m < n) = true := ⟨by simp; omega, by simpa using h⟩
theorem ge_dec {m n : Nat} (h : ¬ m < n) : decide ((m : Int) < (n : Int)) = false ∧ decide (m < n) = false := ⟨by simp; omega, by simpa using h⟩
theorem le_dec {e : Int} (h : ¬ 64 < e) : decide (e ≤ 64) = true := by simp; omega
theorem gt_dec {e : Int} (h : 64 < e) : decide (e ≤ 64) = false := by simp; omega
theorem nn_dec {e : Int} (h : ¬ e < 0) : decide (0 ≤ e) = true := by simp; omega
theorem ng_dec {e : Int} (h : e < 0) : decide (0 ≤ e) = false := by simp; omega
theorem sb_rng {di t : Int} (hd : -1 ≤ di ∧ di ≤ 64) (ht : 0 ≤ t ∧ t ≤ 64) : -65 ≤ di - t ∧ di - t ≤ 64 := by omega
theorem on_rng {e pv : Int} (h : ¬ e < 0) (hp : 0 ≤ pv) (h2 : ¬ 64 < e + pv) : 0 ≤ e + pv ∧ e + pv ≤ 64 := by omega
theorem le5 {n : Nat} (h : n ≤ 4500) : n ≤ 5000 := by omega
theorem le6 {n m : Nat} (h : n ≤ 4500) (h2 : m ≤ n + 1) : m ≤ 5000 := by omega
theorem le7 {i n : Nat} (h : i < n) (h2 : n ≤ 4096) : i ≤ 5000 := by omega
theorem nat_of {a : Int} {n : Nat} (h : 0 ≤ a ∧ a < (n : Int)) : a.toNat < n ∧ a = (a.toNat : Int) := by omega
set_option maxHeartbeats 1000000 in
theorem thr_any {w : World} (P L C : Int) (ca : Option Addr) (n cc : Nat) (k g : Int) (ta : Option Addr) (nt tc : Nat) (fa : Option Addr) (nf fc : Nat) {p dg B i : Nat} {D : List Int} {R : List Nat} {ro : Option Nat} {fs : List (Int × Int × Int × List (Int × Int))} {cd : List (Int × Int)} {op a di : Int} (h : WK w P L C ca n cc k g ta nt tc fa nf fc p dg D R ro) (hO : WO n (D, R)) (hcode : InIn w B ca cd) (hcl : cd.length = n) (hn : n ≤ 4096) (hfs : FnIn w B fa fs) (hnf : fs.length = nf) (hB : B ≤ dg) (hx : cd[i]? = some (op, a)) (hop : opS op ≠ 0) (h16 : op = 16 → 0 ≤ a ∧ a < (nf : Int)) (h17 : op = 17 ∨ op = 18 → 0 ≤ a ∧ a ≤ 8) (hju : juB op = true → 0 ≤ a ∧ a < (n : Int)) (ht : 0 ≤ tkV fs (op, a) ∧ tkV fs (op, a) ≤ 64) (hdi : D[i]? = some di) (hR : R.length ≤ 4500) :
    Calls Tryd.prog 91 #[.pointer (some ⟨p, 0, none⟩), .int .i64 i] w (ThQ w P L C ca n cc k g ta nt tc fa nf fc p dg ro i (stF (tkV fs (op, a)) n i (op, a) (D, R))) := by
  have hin : i < n := by have := (List.getElem?_eq_some_iff.1 hx).1; omega
  obtain ⟨q, off, rfl, hq, i0, i1⟩ := in_cells hcode hx
  have hd2 := hO.2.1 i di hdi
  have HT : Hid (∀ w' : World, FnIn w' B fa fs → B ≤ w'.heap.size → Calls Tryd.prog 102 #[.agg #[.int .i64 P, .int .i64 L, .int .i64 C, .slice (some ⟨q, off, none⟩) n cc, .int .i64 k, .int .i64 g, .slice ta nt tc, .slice fa nf fc], .agg #[.int .i64 op, .int .i64 a]] w' fun x w'' => x = .returned (.int .i64 (tkV fs (op, a))) ∧ Out 0 0 w' w'') := hid_mk fun w' z1 z2 => takes_any op a P L C (some ⟨q, off, none⟩) n cc k g ta nt tc fa nf fc hop z1 hnf z2 h16 h17
  have hg : (D, R).1.getD i 0 = di := by show D.getD i 0 = di; rw [List.getD_eq_getElem?_getD, hdi]; rfl
  generalize htt : tkV fs (op, a) = t at *
  have hw1 := hid_mk (wr_sub hd2 ht)
  have HP : Hid (∀ w : World, Calls Tryd.prog 103 #[.int .i64 op] w fun x w' => x = .returned (.int .i64 (ptV op)) ∧ w' = w) := hid_mk (puts_any op)
  by_cases c1 : di - t < 0
  · rw [st_74 hg c1]
    exact thr_A h hq i0 i1 hin hfs hB HT hdi hw1.out (ng_dec c1)
  have hw2 := hid_mk (wr_add (e1 := di - t) (pv := ptV op) (sb_rng hd2 ht) ⟨pt_nn op, pt_le op⟩)
  have d1 := nn_dec c1
  by_cases c2 : 64 < di - t + ptV op
  · rw [st_75 hg c1 c2]
    exact thr_B h hq i0 i1 hin hfs hB HT hdi hw1.out d1 HP hw2.out (gt_dec c2)
  have d2 := le_dec c2
  have HJ0 := hid_mk (jumps_any op)
  have HG0 := hid_mk (goesOn_any op)
  by_cases cg : goB op = true
  · have HG : Hid (∀ w : World, Calls Tryd.prog 104 #[.int .i64 op] w fun x w' => x = .returned (.bool true) ∧ w' = w) := hid_mk fun w => by have := HG0.out w; rwa [cg] at this
    have hm := hid_mk (wr_one (le7 hin hn))
    by_cases cm : i + 1 < n
    · have l1 := lt_dec cm
      rcases ho : onF (D, R) (i + 1) (di - t + ptV op) with _ | s1
      · rw [st_er hg c1 c2 (e := 76) (by unfold nxF; rw [if_pos cg, if_pos cm, ho])]
        exact thr_C4 h hq i0 i1 hin hfs hB HT hdi hw1.out hO hR d1 HP hw2.out d2 HG hm.out.1 hm.out.2 cm l1.1 l1.2 ho
      · rw [st_go hg c1 c2 (s1 := s1) (by unfold nxF; rw [if_pos cg, if_pos cm, ho])]
        by_cases cj : juB op = true
        · have HJ : Hid (∀ w : World, Calls Tryd.prog 70 #[.int .i64 op] w fun x w' => x = .returned (.bool true) ∧ w' = w) := hid_mk fun w => by have := HJ0.out w; rwa [cj] at this
          obtain ⟨a0, a1⟩ := nat_of (hju cj)
          have hW1 := (on_ok hO (on_rng c1 (pt_nn op) c2).1 (on_rng c1 (pt_nn op) c2).2 ho).1
          rw [ju_of cj]
          exact thr_C6 h hq i0 i1 hin hfs hB HT hdi hw1.out hO hR d1 HP hw2.out d2 HG hm.out.1 hm.out.2 cm l1.1 l1.2 HJ ho (mj := a.toNat) a0 a1 ⟨hW1, le6 hR (on_len ho)⟩ rfl
        · have cj' : juB op = false := by simpa using cj
          have HJ : Hid (∀ w : World, Calls Tryd.prog 70 #[.int .i64 op] w fun x w' => x = .returned (.bool false) ∧ w' = w) := hid_mk fun w => by have := HJ0.out w; rwa [cj'] at this
          rw [show juF op a (di - t + ptV op) s1 = .inr s1 by unfold juF; rw [if_neg cj]]
          exact thr_C5 h hq i0 i1 hin hfs hB HT hdi hw1.out hO hR d1 HP hw2.out d2 HG hm.out.1 hm.out.2 cm l1.1 l1.2 HJ ho
    · have l1 := ge_dec cm
      rw [st_er hg c1 c2 (e := 77) (by unfold nxF; rw [if_pos cg, if_neg cm])]
      exact thr_C3 h hq i0 i1 hin hfs hB HT hdi hw1.out d1 HP hw2.out d2 HG hm.out.1 hm.out.2 l1.1 l1.2
  · have cg' : goB op = false := by simpa using cg
    have HG : Hid (∀ w : World, Calls Tryd.prog 104 #[.int .i64 op] w fun x w' => x = .returned (.bool false) ∧ w' = w) := hid_mk fun w => by have := HG0.out w; rwa [cg'] at this
    rw [st_go hg c1 c2 (s1 := (D, R)) (by unfold nxF; rw [if_neg cg])]
    by_cases cj : juB op = true
    · have HJ : Hid (∀ w : World, Calls Tryd.prog 70 #[.int .i64 op] w fun x w' => x = .returned (.bool true) ∧ w' = w) := hid_mk fun w => by have := HJ0.out w; rwa [cj] at this
      obtain ⟨a0, a1⟩ := nat_of (hju cj)
      rw [ju_of cj]
      exact thr_C2 h hq i0 i1 hin hfs hB HT hdi hw1.out hO (le5 hR) (mj := a.toNat) a0 a1 d1 HP hw2.out d2 HG HJ rfl
    · have cj' : juB op = false := by simpa using cj
      have HJ : Hid (∀ w : World, Calls Tryd.prog 70 #[.int .i64 op] w fun x w' => x = .returned (.bool false) ∧ w' = w) := hid_mk fun w => by have := HJ0.out w; rwa [cj'] at this
      rw [show juF op a (di - t + ptV op) (D, R) = .inr (D, R) by unfold juF; rw [if_neg cj]]
      exact thr_C1 h hq i0 i1 hin hfs hB HT hdi hw1.out d1 HP hw2.out d2 HG HJ
end Go.Proofs.YtkghabmgofgclaaDoor
