import Derived.Test.YtkghabmgofgclaaDoorQaj
namespace Go.Proofs.YtkghabmgofgclaaDoor
open Go.RowKit
set_option linter.unusedVariables false
set_option linter.unusedSimpArgs false

def ofO (o : Option (List Int × List Nat)) : Sum Int (List Int × List Nat) := match o with
  | some s => .inr s
  | none => .inl 76
/-- what 'through' leaves -/
def ThQ (w : World) (P L C : Int) (ca : Option Addr) (n cc : Nat) (k g : Int) (ta : Option Addr) (nt tc : Nat) (fa : Option Addr) (nf fc : Nat) (p dg : Nat) (ro : Option Nat) (i : Int) (o : Sum Int (List Int × List Nat)) (e : Ending) (w' : World) : Prop := (∃ s ro', o = .inr s ∧ e = .returned (.tuple #[]) ∧ WK w' P L C ca n cc k g ta nt tc fa nf fc p dg s.1 s.2 ro' ∧ SW p dg ro w ro' w') ∨ (∃ er, o = .inl er ∧ e = .panicked [badP er k i] ∧ Lo dg w w')
theorem on_at {w : World} (P L C : Int) (ca : Option Addr) (n cc : Nat) (k g : Int) (ta : Option Addr) (nt tc : Nat) (fa : Option Addr) (nf fc : Nat) {p dg : Nat} {D : List Int} {R : List Nat} {ro : Option Nat} (h : WK w P L C ca n cc k g ta nt tc fa nf fc p dg D R ro) (hO : WO n (D, R)) (i : Int) (j : Nat) (d a : Int) (ha : a = (j : Int)) (hjn : j < n) (hR : R.length ≤ 5000) :
    Calls Tryd.prog 105 #[.pointer (some ⟨p, 0, none⟩), .int .i64 i, .int .i64 a, .int .i64 d] w (OnQ w P L C ca n cc k g ta nt tc fa nf fc p dg ro i (onF (D, R) j d)) := by
  rw [ha]
  exact on_any P L C ca n cc k g ta nt tc fa nf fc h hO i j d hjn hR
set_option maxRecDepth 100000 in
set_option maxHeartbeats 2000000 in
theorem thr_A {w : World} {P L C : Int} {q off n cc : Nat} {k g : Int} {ta : Option Addr} {nt tc : Nat} {fa : Option Addr} {nf fc : Nat} {p dg B i : Nat} {D : List Int} {R : List Nat} {ro : Option Nat} {fs : List (Int × Int × Int × List (Int × Int))} {op a di t e1 : Int} (h : WK w P L C (some ⟨q, off, none⟩) n cc k g ta nt tc fa nf fc p dg D R ro) (hq : q < B) (i0 : w.cell? ⟨q, off + i * 2, none⟩ = some (.int .i64 op)) (i1 : w.cell? ⟨q, off + i * 2 + 1, none⟩ = some (.int .i64 a)) (hin : i < n) (hfs : FnIn w B fa fs) (hB : B ≤ dg)
    (HT : Hid (∀ w' : World, FnIn w' B fa fs → B ≤ w'.heap.size → Calls Tryd.prog 102 #[.agg #[.int .i64 P, .int .i64 L, .int .i64 C, .slice (some ⟨q, off, none⟩) n cc, .int .i64 k, .int .i64 g, .slice ta nt tc, .slice fa nf fc], .agg #[.int .i64 op, .int .i64 a]] w' fun x w'' => x = .returned (.int .i64 t) ∧ Out 0 0 w' w'')) (hdi : D[i]? = some di) (hw1 : IntKind.i64.wrap (di - t) = e1) (he : decide (0 ≤ e1) = false) :
    Calls Tryd.prog 91 #[.pointer (some ⟨p, 0, none⟩), .int .i64 i] w (ThQ w P L C (some ⟨q, off, none⟩) n cc k g ta nt tc fa nf fc p dg ro i (.inl 74)) := by
  have HZ := hid_mk (h.off (Nat.le_refl _))
  obtain ⟨ra, rc, BB, b2, b3, b4, b5, b6⟩ := h
  have hpl := BB.lt
  have dj := iv_cell b2 hdi
  have HW : Hid (WK w P L C (some ⟨q, off, none⟩) n cc k g ta nt tc fa nf fc p dg D R ro) := hid_mk ⟨ra, rc, BB, b2, b3, b4, b5, b6⟩
  obtain ⟨G, hG⟩ : ∃ G, w.heap.size = G := ⟨_, rfl⟩
  obtain ⟨V, hV⟩ : ∃ V, w.alloc (.cells #[.int .i64 op, .int .i64 a] 61) = V := ⟨_, rfl⟩
  have oV : Out 0 0 w V := by rw [← hV]; exact (Out.refl 0 0 w).alloc _
  have bI : Bl V G #[.int .i64 op, .int .i64 a] 61 := by rw [← hV, ← hG]; exact Bl.new _ _ _
  have BK := BB.kept oV (.inr (Nat.zero_le _))
  have c3 := BB.cell (i := 3) rfl
  have k0 := BK.cell (i := 0) rfl; have k1 := BK.cell (i := 1) rfl; have k2 := BK.cell (i := 2) rfl; have k3 := BK.cell (i := 3) rfl; have k4 := BK.cell (i := 4) rfl; have k5 := BK.cell (i := 5) rfl; have k6 := BK.cell (i := 6) rfl; have k7 := BK.cell (i := 7) rfl; have k8 := BK.cell (i := 8) rfl
  have x0 := bI.cell (i := 0) rfl
  have x1 := bI.cell (i := 1) rfl
  have dj := oV.cell dj (.inr (Nat.zero_le _))
  have HFS := hid_mk (hfs.kept (C := B) (Lo.of_out oV) (Nat.le_refl _))
  have HBB : Hid (B ≤ V.heap.size) := hid_mk (Nat.le_trans hB (Nat.le_trans (Nat.le_of_lt (Nat.lt_trans b5 hpl)) oV.size))
  have HO := hid_mk oV
  have hii : (i : Int) < (n : Int) := by omega
  have hi0 : (0 : Int) ≤ (i : Int) := by omega
  rw [hG] at HZ
  clear BB b2 b3 b4 b5 b6 BK hpl hfs hB hdi oV bI hq
  go_enter Tryd.func91, Tryd.ntmps91
  go_wp2_with fail
  (try rw [hV])
  (try rw [hG])
  clear hV hG i0 i1 c3
  refine wp_region_held_drew (S := fun w' => w'.cell? ⟨p, 0, none⟩ = some (.int .i64 P) ∧ w'.cell? ⟨p, 1, none⟩ = some (.int .i64 L) ∧ w'.cell? ⟨p, 2, none⟩ = some (.int .i64 C) ∧ w'.cell? ⟨p, 3, none⟩ = some (.slice (some ⟨q, off, none⟩) n cc) ∧ w'.cell? ⟨p, 4, none⟩ = some (.int .i64 k) ∧ w'.cell? ⟨p, 5, none⟩ = some (.int .i64 g) ∧ w'.cell? ⟨p, 6, none⟩ = some (.slice ta nt tc) ∧ w'.cell? ⟨p, 7, none⟩ = some (.slice fa nf fc) ∧ w'.cell? ⟨p, 8, none⟩ = some (.slice (some ⟨dg, 0, none⟩) n n) ∧ w'.cell? ⟨dg, i, none⟩ = some (.int .i64 di) ∧ w'.cell? ⟨G, 0, none⟩ = some (.int .i64 op) ∧ w'.cell? ⟨G, 1, none⟩ = some (.int .i64 a)) (by kernel_rfl) ?hS1 (fun hHeld => ?rest1)
  case hS1 => exact ⟨k0, k1, k2, k3, k4, k5, k6, k7, k8, dj, x0, x1⟩
  refine tk 0 ?_
  refine tk 1 ?_
  refine tk 2 ?_
  refine tk 3 ?_
  refine tk 4 ?_
  refine tk 5 ?_
  refine tk 6 ?_
  refine tk 7 ?_
  refine tk 8 ?_
  refine tk 9 ?_
  refine tk 10 ?_
  refine tk 11 ?_
  refine wpAnyH_ready (rs := [12]) (by kernel_rfl) (by simp) ?_
  refine AllReadyH.cons rfl (fun KK hK => ?_) AllReadyH.nil
  simp only [xa, xb, xc]
  go_simp
  refine (HT.out _ (HFS.out.kept (Lo.of_out ((Out.refl 0 0 V).drew)) (Nat.le_refl _)) HBB.out).mono ?_
  rintro e w9 ⟨rfl, o8⟩
  have o9 : Out 0 0 V w9 := ((Out.refl 0 0 V).drew).trans o8
  clear o8
  refine hK.out _ _ ?hS14 (fun hHeld2 => ?rest14)
  case hS14 => exact ⟨o9.cell k0 (.inr (Nat.zero_le _)), o9.cell k1 (.inr (Nat.zero_le _)), o9.cell k2 (.inr (Nat.zero_le _)), o9.cell k3 (.inr (Nat.zero_le _)), o9.cell k4 (.inr (Nat.zero_le _)), o9.cell k5 (.inr (Nat.zero_le _)), o9.cell k6 (.inr (Nat.zero_le _)), o9.cell k7 (.inr (Nat.zero_le _)), o9.cell k8 (.inr (Nat.zero_le _)), o9.cell dj (.inr (Nat.zero_le _)), o9.cell x0 (.inr (Nat.zero_le _)), o9.cell x1 (.inr (Nat.zero_le _))⟩
  clear hK KK
  (try clear hHeld)
  have hHeld := hHeld2
  clear hHeld2
  (try simp only [Act.put, xa, xb, xc, xd, xe, xf])
  refine tk 13 ?_
  refine tk 14 ?_
  refine wpAnyH_done (by kernel_rfl) ?_ _
  clear hHeld
  replace k0 := o9.cell k0 (.inr (Nat.zero_le _)); replace k1 := o9.cell k1 (.inr (Nat.zero_le _)); replace k2 := o9.cell k2 (.inr (Nat.zero_le _)); replace k3 := o9.cell k3 (.inr (Nat.zero_le _)); replace k4 := o9.cell k4 (.inr (Nat.zero_le _)); replace k5 := o9.cell k5 (.inr (Nat.zero_le _)); replace k6 := o9.cell k6 (.inr (Nat.zero_le _)); replace k7 := o9.cell k7 (.inr (Nat.zero_le _)); replace k8 := o9.cell k8 (.inr (Nat.zero_le _))
  replace x0 := o9.cell x0 (.inr (Nat.zero_le _)); replace x1 := o9.cell x1 (.inr (Nat.zero_le _))
  replace HO := hid_mk (HO.out.trans o9)
  clear o9 dj HT HFS HBB
  go_wp2_with (go_at_call 68; refine (fwant_no P L C (some ⟨q, off, none⟩) n cc k g ta nt tc fa nf fc _ _ _).mono ?_; rintro e w9 ⟨rfl, o9⟩; replace HO := hid_mk (HO.out.trans o9); clear o9)
  exact ⟨rfl, .inr ⟨74, rfl, rfl, Fx.of_out HO.out⟩⟩
set_option maxRecDepth 100000 in
set_option maxHeartbeats 2000000 in
theorem thr_B {w : World} {P L C : Int} {q off n cc : Nat} {k g : Int} {ta : Option Addr} {nt tc : Nat} {fa : Option Addr} {nf fc : Nat} {p dg B i : Nat} {D : List Int} {R : List Nat} {ro : Option Nat} {fs : List (Int × Int × Int × List (Int × Int))} {op a di t e1 : Int} (h : WK w P L C (some ⟨q, off, none⟩) n cc k g ta nt tc fa nf fc p dg D R ro) (hq : q < B) (i0 : w.cell? ⟨q, off + i * 2, none⟩ = some (.int .i64 op)) (i1 : w.cell? ⟨q, off + i * 2 + 1, none⟩ = some (.int .i64 a)) (hin : i < n) (hfs : FnIn w B fa fs) (hB : B ≤ dg)
    (HT : Hid (∀ w' : World, FnIn w' B fa fs → B ≤ w'.heap.size → Calls Tryd.prog 102 #[.agg #[.int .i64 P, .int .i64 L, .int .i64 C, .slice (some ⟨q, off, none⟩) n cc, .int .i64 k, .int .i64 g, .slice ta nt tc, .slice fa nf fc], .agg #[.int .i64 op, .int .i64 a]] w' fun x w'' => x = .returned (.int .i64 t) ∧ Out 0 0 w' w'')) (hdi : D[i]? = some di) (hw1 : IntKind.i64.wrap (di - t) = e1) {pv e2 : Int} (he : decide (0 ≤ e1) = true) (HP : Hid (∀ w : World, Calls Tryd.prog 103 #[.int .i64 op] w fun x w' => x = .returned (.int .i64 pv) ∧ w' = w)) (hw2 : wrap64 (e1 + pv) = e2) (he2 : decide (e2 ≤ 64) = false) :
    Calls Tryd.prog 91 #[.pointer (some ⟨p, 0, none⟩), .int .i64 i] w (ThQ w P L C (some ⟨q, off, none⟩) n cc k g ta nt tc fa nf fc p dg ro i (.inl 75)) := by
  have HZ := hid_mk (h.off (Nat.le_refl _))
  obtain ⟨ra, rc, BB, b2, b3, b4, b5, b6⟩ := h
  have hpl := BB.lt
  have dj := iv_cell b2 hdi
  have HW : Hid (WK w P L C (some ⟨q, off, none⟩) n cc k g ta nt tc fa nf fc p dg D R ro) := hid_mk ⟨ra, rc, BB, b2, b3, b4, b5, b6⟩
  obtain ⟨G, hG⟩ : ∃ G, w.heap.size = G := ⟨_, rfl⟩
  obtain ⟨V, hV⟩ : ∃ V, w.alloc (.cells #[.int .i64 op, .int .i64 a] 61) = V := ⟨_, rfl⟩
  have oV : Out 0 0 w V := by rw [← hV]; exact (Out.refl 0 0 w).alloc _
  have bI : Bl V G #[.int .i64 op, .int .i64 a] 61 := by rw [← hV, ← hG]; exact Bl.new _ _ _
  have BK := BB.kept oV (.inr (Nat.zero_le _))
  have c3 := BB.cell (i := 3) rfl
  have k0 := BK.cell (i := 0) rfl; have k1 := BK.cell (i := 1) rfl; have k2 := BK.cell (i := 2) rfl; have k3 := BK.cell (i := 3) rfl; have k4 := BK.cell (i := 4) rfl; have k5 := BK.cell (i := 5) rfl; have k6 := BK.cell (i := 6) rfl; have k7 := BK.cell (i := 7) rfl; have k8 := BK.cell (i := 8) rfl
  have x0 := bI.cell (i := 0) rfl
  have x1 := bI.cell (i := 1) rfl
  have dj := oV.cell dj (.inr (Nat.zero_le _))
  have HFS := hid_mk (hfs.kept (C := B) (Lo.of_out oV) (Nat.le_refl _))
  have HBB : Hid (B ≤ V.heap.size) := hid_mk (Nat.le_trans hB (Nat.le_trans (Nat.le_of_lt (Nat.lt_trans b5 hpl)) oV.size))
  have HO := hid_mk oV
  have hii : (i : Int) < (n : Int) := by omega
  have hi0 : (0 : Int) ≤ (i : Int) := by omega
  rw [hG] at HZ
  clear BB b2 b3 b4 b5 b6 BK hpl hfs hB hdi oV bI hq
  go_enter Tryd.func91, Tryd.ntmps91
  go_wp2_with fail
  (try rw [hV])
  (try rw [hG])
  clear hV hG i0 i1 c3
  refine wp_region_held_drew (S := fun w' => w'.cell? ⟨p, 0, none⟩ = some (.int .i64 P) ∧ w'.cell? ⟨p, 1, none⟩ = some (.int .i64 L) ∧ w'.cell? ⟨p, 2, none⟩ = some (.int .i64 C) ∧ w'.cell? ⟨p, 3, none⟩ = some (.slice (some ⟨q, off, none⟩) n cc) ∧ w'.cell? ⟨p, 4, none⟩ = some (.int .i64 k) ∧ w'.cell? ⟨p, 5, none⟩ = some (.int .i64 g) ∧ w'.cell? ⟨p, 6, none⟩ = some (.slice ta nt tc) ∧ w'.cell? ⟨p, 7, none⟩ = some (.slice fa nf fc) ∧ w'.cell? ⟨p, 8, none⟩ = some (.slice (some ⟨dg, 0, none⟩) n n) ∧ w'.cell? ⟨dg, i, none⟩ = some (.int .i64 di) ∧ w'.cell? ⟨G, 0, none⟩ = some (.int .i64 op) ∧ w'.cell? ⟨G, 1, none⟩ = some (.int .i64 a)) (by kernel_rfl) ?hS17 (fun hHeld => ?rest17)
  case hS17 => exact ⟨k0, k1, k2, k3, k4, k5, k6, k7, k8, dj, x0, x1⟩
  refine tk 0 ?_
  refine tk 1 ?_
  refine tk 2 ?_
  refine tk 3 ?_
  refine tk 4 ?_
  refine tk 5 ?_
  refine tk 6 ?_
  refine tk 7 ?_
  refine tk 8 ?_
  refine tk 9 ?_
  refine tk 10 ?_
  refine tk 11 ?_
  refine wpAnyH_ready (rs := [12]) (by kernel_rfl) (by simp) ?_
  refine AllReadyH.cons rfl (fun KK hK => ?_) AllReadyH.nil
  simp only [xa, xb, xc]
  go_simp
  refine (HT.out _ (HFS.out.kept (Lo.of_out ((Out.refl 0 0 V).drew)) (Nat.le_refl _)) HBB.out).mono ?_
  rintro e w9 ⟨rfl, o8⟩
  have o9 : Out 0 0 V w9 := ((Out.refl 0 0 V).drew).trans o8
  clear o8
  refine hK.out _ _ ?hS30 (fun hHeld2 => ?rest30)
  case hS30 => exact ⟨o9.cell k0 (.inr (Nat.zero_le _)), o9.cell k1 (.inr (Nat.zero_le _)), o9.cell k2 (.inr (Nat.zero_le _)), o9.cell k3 (.inr (Nat.zero_le _)), o9.cell k4 (.inr (Nat.zero_le _)), o9.cell k5 (.inr (Nat.zero_le _)), o9.cell k6 (.inr (Nat.zero_le _)), o9.cell k7 (.inr (Nat.zero_le _)), o9.cell k8 (.inr (Nat.zero_le _)), o9.cell dj (.inr (Nat.zero_le _)), o9.cell x0 (.inr (Nat.zero_le _)), o9.cell x1 (.inr (Nat.zero_le _))⟩
  clear hK KK
  (try clear hHeld)
  have hHeld := hHeld2
  clear hHeld2
  (try simp only [Act.put, xa, xb, xc, xd, xe, xf])
  refine tk 13 ?_
  refine tk 14 ?_
  refine wpAnyH_done (by kernel_rfl) ?_ _
  clear hHeld
  replace k0 := o9.cell k0 (.inr (Nat.zero_le _)); replace k1 := o9.cell k1 (.inr (Nat.zero_le _)); replace k2 := o9.cell k2 (.inr (Nat.zero_le _)); replace k3 := o9.cell k3 (.inr (Nat.zero_le _)); replace k4 := o9.cell k4 (.inr (Nat.zero_le _)); replace k5 := o9.cell k5 (.inr (Nat.zero_le _)); replace k6 := o9.cell k6 (.inr (Nat.zero_le _)); replace k7 := o9.cell k7 (.inr (Nat.zero_le _)); replace k8 := o9.cell k8 (.inr (Nat.zero_le _))
  replace x0 := o9.cell x0 (.inr (Nat.zero_le _)); replace x1 := o9.cell x1 (.inr (Nat.zero_le _))
  replace HO := hid_mk (HO.out.trans o9)
  clear o9 dj HT HFS HBB
  have tok : True := trivial
  go_wp2_with (first | (go_at_call 103; refine calls_same (HP.out _) ?_) | (have _t := tok; go_at_call 68; refine (fwant_yes P L C (some ⟨q, off, none⟩) n cc k g ta nt tc fa nf fc _ _ _).mono ?_; rintro e w9 ⟨rfl, o9⟩; replace k0 := o9.cell k0 (.inr (Nat.zero_le _)); replace k1 := o9.cell k1 (.inr (Nat.zero_le _)); replace k2 := o9.cell k2 (.inr (Nat.zero_le _)); replace k3 := o9.cell k3 (.inr (Nat.zero_le _)); replace k4 := o9.cell k4 (.inr (Nat.zero_le _)); replace k5 := o9.cell k5 (.inr (Nat.zero_le _)); replace k6 := o9.cell k6 (.inr (Nat.zero_le _)); replace k7 := o9.cell k7 (.inr (Nat.zero_le _)); replace k8 := o9.cell k8 (.inr (Nat.zero_le _)); replace x0 := o9.cell x0 (.inr (Nat.zero_le _)); replace x1 := o9.cell x1 (.inr (Nat.zero_le _)); replace HO := hid_mk (HO.out.trans o9); clear o9; clear tok) | (go_at_call 68; refine (fwant_no P L C (some ⟨q, off, none⟩) n cc k g ta nt tc fa nf fc _ _ _).mono ?_; rintro e w9 ⟨rfl, o9⟩; replace HO := hid_mk (HO.out.trans o9); clear o9))
  exact ⟨rfl, .inr ⟨75, rfl, rfl, Fx.of_out HO.out⟩⟩
end Go.Proofs.YtkghabmgofgclaaDoor
namespace Go.Proofs.YtkghabmgofgclaaDoor
open Go.RowKit
set_option linter.unusedVariables false
set_option linter.unusedSimpArgs false

set_option maxRecDepth 100000 in
set_option maxHeartbeats 2000000 in
theorem thr_C1 {w : World} {P L C : Int} {q off n cc : Nat} {k g : Int} {ta : Option Addr} {nt tc : Nat} {fa : Option Addr} {nf fc : Nat} {p dg B i : Nat} {D : List Int} {R : List Nat} {ro : Option Nat} {fs : List (Int × Int × Int × List (Int × Int))} {op a di t e1 : Int} (h : WK w P L C (some ⟨q, off, none⟩) n cc k g ta nt tc fa nf fc p dg D R ro) (hq : q < B) (i0 : w.cell? ⟨q, off + i * 2, none⟩ = some (.int .i64 op)) (i1 : w.cell? ⟨q, off + i * 2 + 1, none⟩ = some (.int .i64 a)) (hin : i < n) (hfs : FnIn w B fa fs) (hB : B ≤ dg)
    (HT : Hid (∀ w' : World, FnIn w' B fa fs → B ≤ w'.heap.size → Calls Tryd.prog 102 #[.agg #[.int .i64 P, .int .i64 L, .int .i64 C, .slice (some ⟨q, off, none⟩) n cc, .int .i64 k, .int .i64 g, .slice ta nt tc, .slice fa nf fc], .agg #[.int .i64 op, .int .i64 a]] w' fun x w'' => x = .returned (.int .i64 t) ∧ Out 0 0 w' w'')) (hdi : D[i]? = some di) (hw1 : IntKind.i64.wrap (di - t) = e1) {pv e2 : Int} (he : decide (0 ≤ e1) = true) (HP : Hid (∀ w : World, Calls Tryd.prog 103 #[.int .i64 op] w fun x w' => x = .returned (.int .i64 pv) ∧ w' = w)) (hw2 : wrap64 (e1 + pv) = e2) (he2 : decide (e2 ≤ 64) = true) (HG : Hid (∀ w : World, Calls Tryd.prog 104 #[.int .i64 op] w fun x w' => x = .returned (.bool false) ∧ w' = w)) (HJ : Hid (∀ w : World, Calls Tryd.prog 70 #[.int .i64 op] w fun x w' => x = .returned (.bool false) ∧ w' = w)) :
    Calls Tryd.prog 91 #[.pointer (some ⟨p, 0, none⟩), .int .i64 i] w (ThQ w P L C (some ⟨q, off, none⟩) n cc k g ta nt tc fa nf fc p dg ro i (.inr (D, R))) := by
  have HZ := hid_mk (h.off (Nat.le_refl _))
  obtain ⟨ra, rc, BB, b2, b3, b4, b5, b6⟩ := h
  have hpl := BB.lt
  have dj := iv_cell b2 hdi
  have HW : Hid (WK w P L C (some ⟨q, off, none⟩) n cc k g ta nt tc fa nf fc p dg D R ro) := hid_mk ⟨ra, rc, BB, b2, b3, b4, b5, b6⟩
  obtain ⟨G, hG⟩ : ∃ G, w.heap.size = G := ⟨_, rfl⟩
  obtain ⟨V, hV⟩ : ∃ V, w.alloc (.cells #[.int .i64 op, .int .i64 a] 61) = V := ⟨_, rfl⟩
  have oV : Out 0 0 w V := by rw [← hV]; exact (Out.refl 0 0 w).alloc _
  have bI : Bl V G #[.int .i64 op, .int .i64 a] 61 := by rw [← hV, ← hG]; exact Bl.new _ _ _
  have BK := BB.kept oV (.inr (Nat.zero_le _))
  have c3 := BB.cell (i := 3) rfl
  have k0 := BK.cell (i := 0) rfl; have k1 := BK.cell (i := 1) rfl; have k2 := BK.cell (i := 2) rfl; have k3 := BK.cell (i := 3) rfl; have k4 := BK.cell (i := 4) rfl; have k5 := BK.cell (i := 5) rfl; have k6 := BK.cell (i := 6) rfl; have k7 := BK.cell (i := 7) rfl; have k8 := BK.cell (i := 8) rfl
  have x0 := bI.cell (i := 0) rfl
  have x1 := bI.cell (i := 1) rfl
  have dj := oV.cell dj (.inr (Nat.zero_le _))
  have HFS := hid_mk (hfs.kept (C := B) (Lo.of_out oV) (Nat.le_refl _))
  have HBB : Hid (B ≤ V.heap.size) := hid_mk (Nat.le_trans hB (Nat.le_trans (Nat.le_of_lt (Nat.lt_trans b5 hpl)) oV.size))
  have HO := hid_mk oV
  have hii : (i : Int) < (n : Int) := by omega
  have hi0 : (0 : Int) ≤ (i : Int) := by omega
  rw [hG] at HZ
  clear BB b2 b3 b4 b5 b6 BK hpl hfs hB hdi oV bI hq
  go_enter Tryd.func91, Tryd.ntmps91
  go_wp2_with fail
  (try rw [hV])
  (try rw [hG])
  clear hV hG i0 i1 c3
  refine wp_region_held_drew (S := fun w' => w'.cell? ⟨p, 0, none⟩ = some (.int .i64 P) ∧ w'.cell? ⟨p, 1, none⟩ = some (.int .i64 L) ∧ w'.cell? ⟨p, 2, none⟩ = some (.int .i64 C) ∧ w'.cell? ⟨p, 3, none⟩ = some (.slice (some ⟨q, off, none⟩) n cc) ∧ w'.cell? ⟨p, 4, none⟩ = some (.int .i64 k) ∧ w'.cell? ⟨p, 5, none⟩ = some (.int .i64 g) ∧ w'.cell? ⟨p, 6, none⟩ = some (.slice ta nt tc) ∧ w'.cell? ⟨p, 7, none⟩ = some (.slice fa nf fc) ∧ w'.cell? ⟨p, 8, none⟩ = some (.slice (some ⟨dg, 0, none⟩) n n) ∧ w'.cell? ⟨dg, i, none⟩ = some (.int .i64 di) ∧ w'.cell? ⟨G, 0, none⟩ = some (.int .i64 op) ∧ w'.cell? ⟨G, 1, none⟩ = some (.int .i64 a)) (by kernel_rfl) ?hS1 (fun hHeld => ?rest1)
  case hS1 => exact ⟨k0, k1, k2, k3, k4, k5, k6, k7, k8, dj, x0, x1⟩
  refine tk 0 ?_
  refine tk 1 ?_
  refine tk 2 ?_
  refine tk 3 ?_
  refine tk 4 ?_
  refine tk 5 ?_
  refine tk 6 ?_
  refine tk 7 ?_
  refine tk 8 ?_
  refine tk 9 ?_
  refine tk 10 ?_
  refine tk 11 ?_
  refine wpAnyH_ready (rs := [12]) (by kernel_rfl) (by simp) ?_
  refine AllReadyH.cons rfl (fun KK hK => ?_) AllReadyH.nil
  simp only [xa, xb, xc]
  go_simp
  refine (HT.out _ (HFS.out.kept (Lo.of_out ((Out.refl 0 0 V).drew)) (Nat.le_refl _)) HBB.out).mono ?_
  rintro e w9 ⟨rfl, o8⟩
  have o9 : Out 0 0 V w9 := ((Out.refl 0 0 V).drew).trans o8
  clear o8
  refine hK.out _ _ ?hS14 (fun hHeld2 => ?rest14)
  case hS14 => exact ⟨o9.cell k0 (.inr (Nat.zero_le _)), o9.cell k1 (.inr (Nat.zero_le _)), o9.cell k2 (.inr (Nat.zero_le _)), o9.cell k3 (.inr (Nat.zero_le _)), o9.cell k4 (.inr (Nat.zero_le _)), o9.cell k5 (.inr (Nat.zero_le _)), o9.cell k6 (.inr (Nat.zero_le _)), o9.cell k7 (.inr (Nat.zero_le _)), o9.cell k8 (.inr (Nat.zero_le _)), o9.cell dj (.inr (Nat.zero_le _)), o9.cell x0 (.inr (Nat.zero_le _)), o9.cell x1 (.inr (Nat.zero_le _))⟩
  clear hK KK
  (try clear hHeld)
  have hHeld := hHeld2
  clear hHeld2
  (try simp only [Act.put, xa, xb, xc, xd, xe, xf])
  refine tk 13 ?_
  refine tk 14 ?_
  refine wpAnyH_done (by kernel_rfl) ?_ _
  clear hHeld
  replace k0 := o9.cell k0 (.inr (Nat.zero_le _)); replace k1 := o9.cell k1 (.inr (Nat.zero_le _)); replace k2 := o9.cell k2 (.inr (Nat.zero_le _)); replace k3 := o9.cell k3 (.inr (Nat.zero_le _)); replace k4 := o9.cell k4 (.inr (Nat.zero_le _)); replace k5 := o9.cell k5 (.inr (Nat.zero_le _)); replace k6 := o9.cell k6 (.inr (Nat.zero_le _)); replace k7 := o9.cell k7 (.inr (Nat.zero_le _)); replace k8 := o9.cell k8 (.inr (Nat.zero_le _))
  replace x0 := o9.cell x0 (.inr (Nat.zero_le _)); replace x1 := o9.cell x1 (.inr (Nat.zero_le _))
  replace HO := hid_mk (HO.out.trans o9)
  clear o9 dj HT HFS HBB
  go_wp2_with (first | (go_at_call 103; refine calls_same (HP.out _) ?_) | (go_at_call 68; refine (fwant_yes P L C (some ⟨q, off, none⟩) n cc k g ta nt tc fa nf fc _ _ _).mono ?_; rintro e w9 ⟨rfl, o9⟩; replace k0 := o9.cell k0 (.inr (Nat.zero_le _)); replace k1 := o9.cell k1 (.inr (Nat.zero_le _)); replace k2 := o9.cell k2 (.inr (Nat.zero_le _)); replace k3 := o9.cell k3 (.inr (Nat.zero_le _)); replace k4 := o9.cell k4 (.inr (Nat.zero_le _)); replace k5 := o9.cell k5 (.inr (Nat.zero_le _)); replace k6 := o9.cell k6 (.inr (Nat.zero_le _)); replace k7 := o9.cell k7 (.inr (Nat.zero_le _)); replace k8 := o9.cell k8 (.inr (Nat.zero_le _)); replace x0 := o9.cell x0 (.inr (Nat.zero_le _)); replace x1 := o9.cell x1 (.inr (Nat.zero_le _)); replace HO := hid_mk (HO.out.trans o9); clear o9) | (go_at_call 104; refine calls_same (HG.out _) ?_) | (go_at_call 70; refine calls_same (HJ.out _) ?_))
  exact bodyPost_end (results_none Tryd.results91 _ _ _) rfl (.inl ⟨_, _, rfl, rfl, WK.quiet HW.out HO.out, (SW.refl _ _ _ _).quiet HO.out⟩)
set_option maxRecDepth 100000 in
set_option maxHeartbeats 2000000 in
theorem thr_C2 {w : World} {P L C : Int} {q off n cc : Nat} {k g : Int} {ta : Option Addr} {nt tc : Nat} {fa : Option Addr} {nf fc : Nat} {p dg B i : Nat} {D : List Int} {R : List Nat} {ro : Option Nat} {fs : List (Int × Int × Int × List (Int × Int))} {op a di t e1 : Int} (h : WK w P L C (some ⟨q, off, none⟩) n cc k g ta nt tc fa nf fc p dg D R ro) (hq : q < B) (i0 : w.cell? ⟨q, off + i * 2, none⟩ = some (.int .i64 op)) (i1 : w.cell? ⟨q, off + i * 2 + 1, none⟩ = some (.int .i64 a)) (hin : i < n) (hfs : FnIn w B fa fs) (hB : B ≤ dg)
    (HT : Hid (∀ w' : World, FnIn w' B fa fs → B ≤ w'.heap.size → Calls Tryd.prog 102 #[.agg #[.int .i64 P, .int .i64 L, .int .i64 C, .slice (some ⟨q, off, none⟩) n cc, .int .i64 k, .int .i64 g, .slice ta nt tc, .slice fa nf fc], .agg #[.int .i64 op, .int .i64 a]] w' fun x w'' => x = .returned (.int .i64 t) ∧ Out 0 0 w' w'')) (hdi : D[i]? = some di) (hw1 : IntKind.i64.wrap (di - t) = e1) (hwo : WO n (D, R)) (hR : R.length ≤ 5000) {mj : Nat} (hmj : mj < n) (ham : a = (mj : Int)) {o : Option (List Int × List Nat)} {pv e2 : Int} (he : decide (0 ≤ e1) = true) (HP : Hid (∀ w : World, Calls Tryd.prog 103 #[.int .i64 op] w fun x w' => x = .returned (.int .i64 pv) ∧ w' = w)) (hw2 : wrap64 (e1 + pv) = e2) (he2 : decide (e2 ≤ 64) = true) (HG : Hid (∀ w : World, Calls Tryd.prog 104 #[.int .i64 op] w fun x w' => x = .returned (.bool false) ∧ w' = w)) (HJ : Hid (∀ w : World, Calls Tryd.prog 70 #[.int .i64 op] w fun x w' => x = .returned (.bool true) ∧ w' = w)) (ho : onF (D, R) mj e2 = o) :
    Calls Tryd.prog 91 #[.pointer (some ⟨p, 0, none⟩), .int .i64 i] w (ThQ w P L C (some ⟨q, off, none⟩) n cc k g ta nt tc fa nf fc p dg ro i (ofO o)) := by
  have HAM := hid_mk ham
  clear ham
  have HZ := hid_mk (h.off (Nat.le_refl _))
  obtain ⟨ra, rc, BB, b2, b3, b4, b5, b6⟩ := h
  have hpl := BB.lt
  have dj := iv_cell b2 hdi
  have HW : Hid (WK w P L C (some ⟨q, off, none⟩) n cc k g ta nt tc fa nf fc p dg D R ro) := hid_mk ⟨ra, rc, BB, b2, b3, b4, b5, b6⟩
  obtain ⟨G, hG⟩ : ∃ G, w.heap.size = G := ⟨_, rfl⟩
  obtain ⟨V, hV⟩ : ∃ V, w.alloc (.cells #[.int .i64 op, .int .i64 a] 61) = V := ⟨_, rfl⟩
  have oV : Out 0 0 w V := by rw [← hV]; exact (Out.refl 0 0 w).alloc _
  have bI : Bl V G #[.int .i64 op, .int .i64 a] 61 := by rw [← hV, ← hG]; exact Bl.new _ _ _
  have BK := BB.kept oV (.inr (Nat.zero_le _))
  have c3 := BB.cell (i := 3) rfl
  have k0 := BK.cell (i := 0) rfl; have k1 := BK.cell (i := 1) rfl; have k2 := BK.cell (i := 2) rfl; have k3 := BK.cell (i := 3) rfl; have k4 := BK.cell (i := 4) rfl; have k5 := BK.cell (i := 5) rfl; have k6 := BK.cell (i := 6) rfl; have k7 := BK.cell (i := 7) rfl; have k8 := BK.cell (i := 8) rfl
  have x0 := bI.cell (i := 0) rfl
  have x1 := bI.cell (i := 1) rfl
  have dj := oV.cell dj (.inr (Nat.zero_le _))
  have HFS := hid_mk (hfs.kept (C := B) (Lo.of_out oV) (Nat.le_refl _))
  have HBB : Hid (B ≤ V.heap.size) := hid_mk (Nat.le_trans hB (Nat.le_trans (Nat.le_of_lt (Nat.lt_trans b5 hpl)) oV.size))
  have HO := hid_mk oV
  have hii : (i : Int) < (n : Int) := by omega
  have hi0 : (0 : Int) ≤ (i : Int) := by omega
  rw [hG] at HZ
  clear BB b2 b3 b4 b5 b6 BK hpl hfs hB hdi oV bI hq
  go_enter Tryd.func91, Tryd.ntmps91
  go_wp2_with fail
  (try rw [hV])
  (try rw [hG])
  clear hV hG i0 i1 c3
  refine wp_region_held_drew (S := fun w' => w'.cell? ⟨p, 0, none⟩ = some (.int .i64 P) ∧ w'.cell? ⟨p, 1, none⟩ = some (.int .i64 L) ∧ w'.cell? ⟨p, 2, none⟩ = some (.int .i64 C) ∧ w'.cell? ⟨p, 3, none⟩ = some (.slice (some ⟨q, off, none⟩) n cc) ∧ w'.cell? ⟨p, 4, none⟩ = some (.int .i64 k) ∧ w'.cell? ⟨p, 5, none⟩ = some (.int .i64 g) ∧ w'.cell? ⟨p, 6, none⟩ = some (.slice ta nt tc) ∧ w'.cell? ⟨p, 7, none⟩ = some (.slice fa nf fc) ∧ w'.cell? ⟨p, 8, none⟩ = some (.slice (some ⟨dg, 0, none⟩) n n) ∧ w'.cell? ⟨dg, i, none⟩ = some (.int .i64 di) ∧ w'.cell? ⟨G, 0, none⟩ = some (.int .i64 op) ∧ w'.cell? ⟨G, 1, none⟩ = some (.int .i64 a)) (by kernel_rfl) ?hS17 (fun hHeld => ?rest17)
  case hS17 => exact ⟨k0, k1, k2, k3, k4, k5, k6, k7, k8, dj, x0, x1⟩
  refine tk 0 ?_
  refine tk 1 ?_
  refine tk 2 ?_
  refine tk 3 ?_
  refine tk 4 ?_
  refine tk 5 ?_
  refine tk 6 ?_
  refine tk 7 ?_
  refine tk 8 ?_
  refine tk 9 ?_
  refine tk 10 ?_
  refine tk 11 ?_
  refine wpAnyH_ready (rs := [12]) (by kernel_rfl) (by simp) ?_
  refine AllReadyH.cons rfl (fun KK hK => ?_) AllReadyH.nil
  simp only [xa, xb, xc]
  go_simp
  refine (HT.out _ (HFS.out.kept (Lo.of_out ((Out.refl 0 0 V).drew)) (Nat.le_refl _)) HBB.out).mono ?_
  rintro e w9 ⟨rfl, o8⟩
  have o9 : Out 0 0 V w9 := ((Out.refl 0 0 V).drew).trans o8
  clear o8
  refine hK.out _ _ ?hS30 (fun hHeld2 => ?rest30)
  case hS30 => exact ⟨o9.cell k0 (.inr (Nat.zero_le _)), o9.cell k1 (.inr (Nat.zero_le _)), o9.cell k2 (.inr (Nat.zero_le _)), o9.cell k3 (.inr (Nat.zero_le _)), o9.cell k4 (.inr (Nat.zero_le _)), o9.cell k5 (.inr (Nat.zero_le _)), o9.cell k6 (.inr (Nat.zero_le _)), o9.cell k7 (.inr (Nat.zero_le _)), o9.cell k8 (.inr (Nat.zero_le _)), o9.cell dj (.inr (Nat.zero_le _)), o9.cell x0 (.inr (Nat.zero_le _)), o9.cell x1 (.inr (Nat.zero_le _))⟩
  clear hK KK
  (try clear hHeld)
  have hHeld := hHeld2
  clear hHeld2
  (try simp only [Act.put, xa, xb, xc, xd, xe, xf])
  refine tk 13 ?_
  refine tk 14 ?_
  refine wpAnyH_done (by kernel_rfl) ?_ _
  clear hHeld
  replace k0 := o9.cell k0 (.inr (Nat.zero_le _)); replace k1 := o9.cell k1 (.inr (Nat.zero_le _)); replace k2 := o9.cell k2 (.inr (Nat.zero_le _)); replace k3 := o9.cell k3 (.inr (Nat.zero_le _)); replace k4 := o9.cell k4 (.inr (Nat.zero_le _)); replace k5 := o9.cell k5 (.inr (Nat.zero_le _)); replace k6 := o9.cell k6 (.inr (Nat.zero_le _)); replace k7 := o9.cell k7 (.inr (Nat.zero_le _)); replace k8 := o9.cell k8 (.inr (Nat.zero_le _))
  replace x0 := o9.cell x0 (.inr (Nat.zero_le _)); replace x1 := o9.cell x1 (.inr (Nat.zero_le _))
  replace HO := hid_mk (HO.out.trans o9)
  clear o9 dj HT HFS HBB
  have HWO := hid_mk hwo
  have HR := hid_mk hR
  have HM := hid_mk hmj
  have Ho := hid_mk ho
  clear hwo hR hmj ho
  go_wp2_with (first | (go_at_call 103; refine calls_same (HP.out _) ?_) | (go_at_call 68; refine (fwant_yes P L C (some ⟨q, off, none⟩) n cc k g ta nt tc fa nf fc _ _ _).mono ?_; rintro e w9 ⟨rfl, o9⟩; replace k0 := o9.cell k0 (.inr (Nat.zero_le _)); replace k1 := o9.cell k1 (.inr (Nat.zero_le _)); replace k2 := o9.cell k2 (.inr (Nat.zero_le _)); replace k3 := o9.cell k3 (.inr (Nat.zero_le _)); replace k4 := o9.cell k4 (.inr (Nat.zero_le _)); replace k5 := o9.cell k5 (.inr (Nat.zero_le _)); replace k6 := o9.cell k6 (.inr (Nat.zero_le _)); replace k7 := o9.cell k7 (.inr (Nat.zero_le _)); replace k8 := o9.cell k8 (.inr (Nat.zero_le _)); replace x0 := o9.cell x0 (.inr (Nat.zero_le _)); replace x1 := o9.cell x1 (.inr (Nat.zero_le _)); replace HO := hid_mk (HO.out.trans o9); clear o9) | (go_at_call 104; refine calls_same (HG.out _) ?_) | (go_at_call 70; refine calls_same (HJ.out _) ?_) | (go_at_call 105; refine (on_at P L C (some ⟨q, off, none⟩) n cc k g ta nt tc fa nf fc (WK.quiet HW.out HO.out) HWO.out _ mj _ _ HAM.out HM.out HR.out).mono ?_))
  rintro e w7 (⟨s, ro', z1, rfl, z2, z3⟩ | ⟨z1, rfl, z2⟩)
  · have : o = some s := Ho.out.symm.trans z1
    subst this
    have Z2 := hid_mk z2
    have Z3 := hid_mk z3
    clear z1 z2 z3
    go_wp2
    exact bodyPost_end (results_none Tryd.results91 _ _ _) rfl (.inl ⟨_, ro', rfl, rfl, Z2.out, SW.ahead HO.out Z3.out⟩)
  · have : o = none := Ho.out.symm.trans z1
    subst this
    exact ⟨rfl, .inr ⟨76, rfl, rfl, (Fx.of_out HO.out).trans z2⟩⟩
end Go.Proofs.YtkghabmgofgclaaDoor
namespace Go.Proofs.YtkghabmgofgclaaDoor
open Go.RowKit
set_option linter.unusedVariables false
set_option linter.unusedSimpArgs false

set_option maxRecDepth 100000 in
set_option maxHeartbeats 2000000 in
theorem thr_C3 {w : World} {P L C : Int} {q off n cc : Nat} {k g : Int} {ta : Option Addr} {nt tc : Nat} {fa : Option Addr} {nf fc : Nat} {p dg B i : Nat} {D : List Int} {R : List Nat} {ro : Option Nat} {fs : List (Int × Int × Int × List (Int × Int))} {op a di t e1 : Int} (h : WK w P L C (some ⟨q, off, none⟩) n cc k g ta nt tc fa nf fc p dg D R ro) (hq : q < B) (i0 : w.cell? ⟨q, off + i * 2, none⟩ = some (.int .i64 op)) (i1 : w.cell? ⟨q, off + i * 2 + 1, none⟩ = some (.int .i64 a)) (hin : i < n) (hfs : FnIn w B fa fs) (hB : B ≤ dg)
    (HT : Hid (∀ w' : World, FnIn w' B fa fs → B ≤ w'.heap.size → Calls Tryd.prog 102 #[.agg #[.int .i64 P, .int .i64 L, .int .i64 C, .slice (some ⟨q, off, none⟩) n cc, .int .i64 k, .int .i64 g, .slice ta nt tc, .slice fa nf fc], .agg #[.int .i64 op, .int .i64 a]] w' fun x w'' => x = .returned (.int .i64 t) ∧ Out 0 0 w' w'')) (hdi : D[i]? = some di) (hw1 : IntKind.i64.wrap (di - t) = e1) {pv e2 : Int} (he : decide (0 ≤ e1) = true) (HP : Hid (∀ w : World, Calls Tryd.prog 103 #[.int .i64 op] w fun x w' => x = .returned (.int .i64 pv) ∧ w' = w)) (hw2 : wrap64 (e1 + pv) = e2) (he2 : decide (e2 ≤ 64) = true) (HG : Hid (∀ w : World, Calls Tryd.prog 104 #[.int .i64 op] w fun x w' => x = .returned (.bool true) ∧ w' = w)) {m : Nat} (hm1 : IntKind.i64.wrap ((i : Int) + 1) = (m : Int)) (hm2 : wrap64 ((i : Int) + 1) = (m : Int)) (hlt : decide ((m : Int) < (n : Int)) = false) (hlt2 : decide (m < n) = false) :
    Calls Tryd.prog 91 #[.pointer (some ⟨p, 0, none⟩), .int .i64 i] w (ThQ w P L C (some ⟨q, off, none⟩) n cc k g ta nt tc fa nf fc p dg ro i (.inl 77)) := by
  have HZ := hid_mk (h.off (Nat.le_refl _))
  obtain ⟨ra, rc, BB, b2, b3, b4, b5, b6⟩ := h
  have hpl := BB.lt
  have dj := iv_cell b2 hdi
  have HW : Hid (WK w P L C (some ⟨q, off, none⟩) n cc k g ta nt tc fa nf fc p dg D R ro) := hid_mk ⟨ra, rc, BB, b2, b3, b4, b5, b6⟩
  obtain ⟨G, hG⟩ : ∃ G, w.heap.size = G := ⟨_, rfl⟩
  obtain ⟨V, hV⟩ : ∃ V, w.alloc (.cells #[.int .i64 op, .int .i64 a] 61) = V := ⟨_, rfl⟩
  have oV : Out 0 0 w V := by rw [← hV]; exact (Out.refl 0 0 w).alloc _
  have bI : Bl V G #[.int .i64 op, .int .i64 a] 61 := by rw [← hV, ← hG]; exact Bl.new _ _ _
  have BK := BB.kept oV (.inr (Nat.zero_le _))
  have c3 := BB.cell (i := 3) rfl
  have k0 := BK.cell (i := 0) rfl; have k1 := BK.cell (i := 1) rfl; have k2 := BK.cell (i := 2) rfl; have k3 := BK.cell (i := 3) rfl; have k4 := BK.cell (i := 4) rfl; have k5 := BK.cell (i := 5) rfl; have k6 := BK.cell (i := 6) rfl; have k7 := BK.cell (i := 7) rfl; have k8 := BK.cell (i := 8) rfl
  have x0 := bI.cell (i := 0) rfl
  have x1 := bI.cell (i := 1) rfl
  have dj := oV.cell dj (.inr (Nat.zero_le _))
  have HFS := hid_mk (hfs.kept (C := B) (Lo.of_out oV) (Nat.le_refl _))
  have HBB : Hid (B ≤ V.heap.size) := hid_mk (Nat.le_trans hB (Nat.le_trans (Nat.le_of_lt (Nat.lt_trans b5 hpl)) oV.size))
  have HO := hid_mk oV
  have hii : (i : Int) < (n : Int) := by omega
  have hi0 : (0 : Int) ≤ (i : Int) := by omega
  rw [hG] at HZ
  clear BB b2 b3 b4 b5 b6 BK hpl hfs hB hdi oV bI hq
  go_enter Tryd.func91, Tryd.ntmps91
  go_wp2_with fail
  (try rw [hV])
  (try rw [hG])
  clear hV hG i0 i1 c3
  refine wp_region_held_drew (S := fun w' => w'.cell? ⟨p, 0, none⟩ = some (.int .i64 P) ∧ w'.cell? ⟨p, 1, none⟩ = some (.int .i64 L) ∧ w'.cell? ⟨p, 2, none⟩ = some (.int .i64 C) ∧ w'.cell? ⟨p, 3, none⟩ = some (.slice (some ⟨q, off, none⟩) n cc) ∧ w'.cell? ⟨p, 4, none⟩ = some (.int .i64 k) ∧ w'.cell? ⟨p, 5, none⟩ = some (.int .i64 g) ∧ w'.cell? ⟨p, 6, none⟩ = some (.slice ta nt tc) ∧ w'.cell? ⟨p, 7, none⟩ = some (.slice fa nf fc) ∧ w'.cell? ⟨p, 8, none⟩ = some (.slice (some ⟨dg, 0, none⟩) n n) ∧ w'.cell? ⟨dg, i, none⟩ = some (.int .i64 di) ∧ w'.cell? ⟨G, 0, none⟩ = some (.int .i64 op) ∧ w'.cell? ⟨G, 1, none⟩ = some (.int .i64 a)) (by kernel_rfl) ?hS1 (fun hHeld => ?rest1)
  case hS1 => exact ⟨k0, k1, k2, k3, k4, k5, k6, k7, k8, dj, x0, x1⟩
  refine tk 0 ?_
  refine tk 1 ?_
  refine tk 2 ?_
  refine tk 3 ?_
  refine tk 4 ?_
  refine tk 5 ?_
  refine tk 6 ?_
  refine tk 7 ?_
  refine tk 8 ?_
  refine tk 9 ?_
  refine tk 10 ?_
  refine tk 11 ?_
  refine wpAnyH_ready (rs := [12]) (by kernel_rfl) (by simp) ?_
  refine AllReadyH.cons rfl (fun KK hK => ?_) AllReadyH.nil
  simp only [xa, xb, xc]
  go_simp
  refine (HT.out _ (HFS.out.kept (Lo.of_out ((Out.refl 0 0 V).drew)) (Nat.le_refl _)) HBB.out).mono ?_
  rintro e w9 ⟨rfl, o8⟩
  have o9 : Out 0 0 V w9 := ((Out.refl 0 0 V).drew).trans o8
  clear o8
  refine hK.out _ _ ?hS14 (fun hHeld2 => ?rest14)
  case hS14 => exact ⟨o9.cell k0 (.inr (Nat.zero_le _)), o9.cell k1 (.inr (Nat.zero_le _)), o9.cell k2 (.inr (Nat.zero_le _)), o9.cell k3 (.inr (Nat.zero_le _)), o9.cell k4 (.inr (Nat.zero_le _)), o9.cell k5 (.inr (Nat.zero_le _)), o9.cell k6 (.inr (Nat.zero_le _)), o9.cell k7 (.inr (Nat.zero_le _)), o9.cell k8 (.inr (Nat.zero_le _)), o9.cell dj (.inr (Nat.zero_le _)), o9.cell x0 (.inr (Nat.zero_le _)), o9.cell x1 (.inr (Nat.zero_le _))⟩
  clear hK KK
  (try clear hHeld)
  have hHeld := hHeld2
  clear hHeld2
  (try simp only [Act.put, xa, xb, xc, xd, xe, xf])
  refine tk 13 ?_
  refine tk 14 ?_
  refine wpAnyH_done (by kernel_rfl) ?_ _
  clear hHeld
  replace k0 := o9.cell k0 (.inr (Nat.zero_le _)); replace k1 := o9.cell k1 (.inr (Nat.zero_le _)); replace k2 := o9.cell k2 (.inr (Nat.zero_le _)); replace k3 := o9.cell k3 (.inr (Nat.zero_le _)); replace k4 := o9.cell k4 (.inr (Nat.zero_le _)); replace k5 := o9.cell k5 (.inr (Nat.zero_le _)); replace k6 := o9.cell k6 (.inr (Nat.zero_le _)); replace k7 := o9.cell k7 (.inr (Nat.zero_le _)); replace k8 := o9.cell k8 (.inr (Nat.zero_le _))
  replace x0 := o9.cell x0 (.inr (Nat.zero_le _)); replace x1 := o9.cell x1 (.inr (Nat.zero_le _))
  replace HO := hid_mk (HO.out.trans o9)
  clear o9 dj HT HFS HBB
  go_wp2_with (first | (go_at_call 103; refine calls_same (HP.out _) ?_) | (go_at_call 68; refine (fwant_yes P L C (some ⟨q, off, none⟩) n cc k g ta nt tc fa nf fc _ _ _).mono ?_; rintro e w9 ⟨rfl, o9⟩; replace k0 := o9.cell k0 (.inr (Nat.zero_le _)); replace k1 := o9.cell k1 (.inr (Nat.zero_le _)); replace k2 := o9.cell k2 (.inr (Nat.zero_le _)); replace k3 := o9.cell k3 (.inr (Nat.zero_le _)); replace k4 := o9.cell k4 (.inr (Nat.zero_le _)); replace k5 := o9.cell k5 (.inr (Nat.zero_le _)); replace k6 := o9.cell k6 (.inr (Nat.zero_le _)); replace k7 := o9.cell k7 (.inr (Nat.zero_le _)); replace k8 := o9.cell k8 (.inr (Nat.zero_le _)); replace x0 := o9.cell x0 (.inr (Nat.zero_le _)); replace x1 := o9.cell x1 (.inr (Nat.zero_le _)); replace HO := hid_mk (HO.out.trans o9); clear o9) | (go_at_call 104; refine calls_same (HG.out _) ?_))
  refine wp_region_held_drew (S := fun w' => w'.cell? ⟨p, 0, none⟩ = some (.int .i64 P) ∧ w'.cell? ⟨p, 1, none⟩ = some (.int .i64 L) ∧ w'.cell? ⟨p, 2, none⟩ = some (.int .i64 C) ∧ w'.cell? ⟨p, 3, none⟩ = some (.slice (some ⟨q, off, none⟩) n cc) ∧ w'.cell? ⟨p, 4, none⟩ = some (.int .i64 k) ∧ w'.cell? ⟨p, 5, none⟩ = some (.int .i64 g) ∧ w'.cell? ⟨p, 6, none⟩ = some (.slice ta nt tc) ∧ w'.cell? ⟨p, 7, none⟩ = some (.slice fa nf fc) ∧ w'.cell? ⟨p, 8, none⟩ = some (.slice (some ⟨dg, 0, none⟩) n n) ∧ w'.cell? ⟨G, 0, none⟩ = some (.int .i64 op) ∧ w'.cell? ⟨G, 1, none⟩ = some (.int .i64 a)) (by kernel_rfl) ?hS17 (fun hHeld => ?rest17)
  case hS17 => exact ⟨k0, k1, k2, k3, k4, k5, k6, k7, k8, x0, x1⟩
  refine tk 0 ?_
  refine tk 1 ?_
  refine tk 2 ?_
  refine tk 3 ?_
  refine tk 4 ?_
  refine tk 5 ?_
  refine tk 6 ?_
  refine tk 7 ?_
  refine tk 8 ?_
  refine tk 9 ?_
  refine tk 10 ?_
  refine tk 11 ?_
  refine tk 12 ?_
  refine tk 13 ?_
  refine tk 14 ?_
  refine wpAnyH_ready (rs := [15]) (by kernel_rfl) (by simp) ?_
  refine AllReadyH.cons rfl (fun KK hK => ?_) AllReadyH.nil
  simp only [xa, xb, xc]
  go_simp
  refine (fwant_no P L C (some ⟨q, off, none⟩) n cc k g ta nt tc fa nf fc _ _ _).mono ?_
  rintro e w9 ⟨rfl, o8⟩
  exact ⟨rfl, .inr ⟨77, rfl, rfl, Fx.of_out ((HO.out.drew).trans o8)⟩⟩
set_option maxRecDepth 100000 in
set_option maxHeartbeats 2000000 in
theorem thr_C4 {w : World} {P L C : Int} {q off n cc : Nat} {k g : Int} {ta : Option Addr} {nt tc : Nat} {fa : Option Addr} {nf fc : Nat} {p dg B i : Nat} {D : List Int} {R : List Nat} {ro : Option Nat} {fs : List (Int × Int × Int × List (Int × Int))} {op a di t e1 : Int} (h : WK w P L C (some ⟨q, off, none⟩) n cc k g ta nt tc fa nf fc p dg D R ro) (hq : q < B) (i0 : w.cell? ⟨q, off + i * 2, none⟩ = some (.int .i64 op)) (i1 : w.cell? ⟨q, off + i * 2 + 1, none⟩ = some (.int .i64 a)) (hin : i < n) (hfs : FnIn w B fa fs) (hB : B ≤ dg)
    (HT : Hid (∀ w' : World, FnIn w' B fa fs → B ≤ w'.heap.size → Calls Tryd.prog 102 #[.agg #[.int .i64 P, .int .i64 L, .int .i64 C, .slice (some ⟨q, off, none⟩) n cc, .int .i64 k, .int .i64 g, .slice ta nt tc, .slice fa nf fc], .agg #[.int .i64 op, .int .i64 a]] w' fun x w'' => x = .returned (.int .i64 t) ∧ Out 0 0 w' w'')) (hdi : D[i]? = some di) (hw1 : IntKind.i64.wrap (di - t) = e1) (hwo : WO n (D, R)) (hR : R.length ≤ 4500) {pv e2 : Int} (he : decide (0 ≤ e1) = true) (HP : Hid (∀ w : World, Calls Tryd.prog 103 #[.int .i64 op] w fun x w' => x = .returned (.int .i64 pv) ∧ w' = w)) (hw2 : wrap64 (e1 + pv) = e2) (he2 : decide (e2 ≤ 64) = true) (HG : Hid (∀ w : World, Calls Tryd.prog 104 #[.int .i64 op] w fun x w' => x = .returned (.bool true) ∧ w' = w)) {m : Nat} (hm1 : IntKind.i64.wrap ((i : Int) + 1) = (m : Int)) (hm2 : wrap64 ((i : Int) + 1) = (m : Int)) (hmn : m < n) (hlt : decide ((m : Int) < (n : Int)) = true) (hlt2 : decide (m < n) = true) (ho : onF (D, R) m e2 = none) :
    Calls Tryd.prog 91 #[.pointer (some ⟨p, 0, none⟩), .int .i64 i] w (ThQ w P L C (some ⟨q, off, none⟩) n cc k g ta nt tc fa nf fc p dg ro i (.inl 76)) := by
  have HZ := hid_mk (h.off (Nat.le_refl _))
  obtain ⟨ra, rc, BB, b2, b3, b4, b5, b6⟩ := h
  have hpl := BB.lt
  have dj := iv_cell b2 hdi
  have HW : Hid (WK w P L C (some ⟨q, off, none⟩) n cc k g ta nt tc fa nf fc p dg D R ro) := hid_mk ⟨ra, rc, BB, b2, b3, b4, b5, b6⟩
  obtain ⟨G, hG⟩ : ∃ G, w.heap.size = G := ⟨_, rfl⟩
  obtain ⟨V, hV⟩ : ∃ V, w.alloc (.cells #[.int .i64 op, .int .i64 a] 61) = V := ⟨_, rfl⟩
  have oV : Out 0 0 w V := by rw [← hV]; exact (Out.refl 0 0 w).alloc _
  have bI : Bl V G #[.int .i64 op, .int .i64 a] 61 := by rw [← hV, ← hG]; exact Bl.new _ _ _
  have BK := BB.kept oV (.inr (Nat.zero_le _))
  have c3 := BB.cell (i := 3) rfl
  have k0 := BK.cell (i := 0) rfl; have k1 := BK.cell (i := 1) rfl; have k2 := BK.cell (i := 2) rfl; have k3 := BK.cell (i := 3) rfl; have k4 := BK.cell (i := 4) rfl; have k5 := BK.cell (i := 5) rfl; have k6 := BK.cell (i := 6) rfl; have k7 := BK.cell (i := 7) rfl; have k8 := BK.cell (i := 8) rfl
  have x0 := bI.cell (i := 0) rfl
  have x1 := bI.cell (i := 1) rfl
  have dj := oV.cell dj (.inr (Nat.zero_le _))
  have HFS := hid_mk (hfs.kept (C := B) (Lo.of_out oV) (Nat.le_refl _))
  have HBB : Hid (B ≤ V.heap.size) := hid_mk (Nat.le_trans hB (Nat.le_trans (Nat.le_of_lt (Nat.lt_trans b5 hpl)) oV.size))
  have HO := hid_mk oV
  have hii : (i : Int) < (n : Int) := by omega
  have hi0 : (0 : Int) ≤ (i : Int) := by omega
  rw [hG] at HZ
  clear BB b2 b3 b4 b5 b6 BK hpl hfs hB hdi oV bI hq
  go_enter Tryd.func91, Tryd.ntmps91
  go_wp2_with fail
  (try rw [hV])
  (try rw [hG])
  clear hV hG i0 i1 c3
  refine wp_region_held_drew (S := fun w' => w'.cell? ⟨p, 0, none⟩ = some (.int .i64 P) ∧ w'.cell? ⟨p, 1, none⟩ = some (.int .i64 L) ∧ w'.cell? ⟨p, 2, none⟩ = some (.int .i64 C) ∧ w'.cell? ⟨p, 3, none⟩ = some (.slice (some ⟨q, off, none⟩) n cc) ∧ w'.cell? ⟨p, 4, none⟩ = some (.int .i64 k) ∧ w'.cell? ⟨p, 5, none⟩ = some (.int .i64 g) ∧ w'.cell? ⟨p, 6, none⟩ = some (.slice ta nt tc) ∧ w'.cell? ⟨p, 7, none⟩ = some (.slice fa nf fc) ∧ w'.cell? ⟨p, 8, none⟩ = some (.slice (some ⟨dg, 0, none⟩) n n) ∧ w'.cell? ⟨dg, i, none⟩ = some (.int .i64 di) ∧ w'.cell? ⟨G, 0, none⟩ = some (.int .i64 op) ∧ w'.cell? ⟨G, 1, none⟩ = some (.int .i64 a)) (by kernel_rfl) ?hS33 (fun hHeld => ?rest33)
  case hS33 => exact ⟨k0, k1, k2, k3, k4, k5, k6, k7, k8, dj, x0, x1⟩
  refine tk 0 ?_
  refine tk 1 ?_
  refine tk 2 ?_
  refine tk 3 ?_
  refine tk 4 ?_
  refine tk 5 ?_
  refine tk 6 ?_
  refine tk 7 ?_
  refine tk 8 ?_
  refine tk 9 ?_
  refine tk 10 ?_
  refine tk 11 ?_
  refine wpAnyH_ready (rs := [12]) (by kernel_rfl) (by simp) ?_
  refine AllReadyH.cons rfl (fun KK hK => ?_) AllReadyH.nil
  simp only [xa, xb, xc]
  go_simp
  refine (HT.out _ (HFS.out.kept (Lo.of_out ((Out.refl 0 0 V).drew)) (Nat.le_refl _)) HBB.out).mono ?_
  rintro e w9 ⟨rfl, o8⟩
  have o9 : Out 0 0 V w9 := ((Out.refl 0 0 V).drew).trans o8
  clear o8
  refine hK.out _ _ ?hS46 (fun hHeld2 => ?rest46)
  case hS46 => exact ⟨o9.cell k0 (.inr (Nat.zero_le _)), o9.cell k1 (.inr (Nat.zero_le _)), o9.cell k2 (.inr (Nat.zero_le _)), o9.cell k3 (.inr (Nat.zero_le _)), o9.cell k4 (.inr (Nat.zero_le _)), o9.cell k5 (.inr (Nat.zero_le _)), o9.cell k6 (.inr (Nat.zero_le _)), o9.cell k7 (.inr (Nat.zero_le _)), o9.cell k8 (.inr (Nat.zero_le _)), o9.cell dj (.inr (Nat.zero_le _)), o9.cell x0 (.inr (Nat.zero_le _)), o9.cell x1 (.inr (Nat.zero_le _))⟩
  clear hK KK
  (try clear hHeld)
  have hHeld := hHeld2
  clear hHeld2
  (try simp only [Act.put, xa, xb, xc, xd, xe, xf])
  refine tk 13 ?_
  refine tk 14 ?_
  refine wpAnyH_done (by kernel_rfl) ?_ _
  clear hHeld
  replace k0 := o9.cell k0 (.inr (Nat.zero_le _)); replace k1 := o9.cell k1 (.inr (Nat.zero_le _)); replace k2 := o9.cell k2 (.inr (Nat.zero_le _)); replace k3 := o9.cell k3 (.inr (Nat.zero_le _)); replace k4 := o9.cell k4 (.inr (Nat.zero_le _)); replace k5 := o9.cell k5 (.inr (Nat.zero_le _)); replace k6 := o9.cell k6 (.inr (Nat.zero_le _)); replace k7 := o9.cell k7 (.inr (Nat.zero_le _)); replace k8 := o9.cell k8 (.inr (Nat.zero_le _))
  replace x0 := o9.cell x0 (.inr (Nat.zero_le _)); replace x1 := o9.cell x1 (.inr (Nat.zero_le _))
  replace HO := hid_mk (HO.out.trans o9)
  clear o9 dj HT HFS HBB
  have HWO := hid_mk hwo
  have HR : Hid (R.length ≤ 5000) := hid_mk (by omega)
  have HM := hid_mk hmn
  clear hwo hR hmn
  go_wp2_with (first | (go_at_call 103; refine calls_same (HP.out _) ?_) | (go_at_call 68; refine (fwant_yes P L C (some ⟨q, off, none⟩) n cc k g ta nt tc fa nf fc _ _ _).mono ?_; rintro e w9 ⟨rfl, o9⟩; replace k0 := o9.cell k0 (.inr (Nat.zero_le _)); replace k1 := o9.cell k1 (.inr (Nat.zero_le _)); replace k2 := o9.cell k2 (.inr (Nat.zero_le _)); replace k3 := o9.cell k3 (.inr (Nat.zero_le _)); replace k4 := o9.cell k4 (.inr (Nat.zero_le _)); replace k5 := o9.cell k5 (.inr (Nat.zero_le _)); replace k6 := o9.cell k6 (.inr (Nat.zero_le _)); replace k7 := o9.cell k7 (.inr (Nat.zero_le _)); replace k8 := o9.cell k8 (.inr (Nat.zero_le _)); replace x0 := o9.cell x0 (.inr (Nat.zero_le _)); replace x1 := o9.cell x1 (.inr (Nat.zero_le _)); replace HO := hid_mk (HO.out.trans o9); clear o9) | (go_at_call 104; refine calls_same (HG.out _) ?_))
  refine wp_region_held_drew (S := fun w' => w'.cell? ⟨p, 0, none⟩ = some (.int .i64 P) ∧ w'.cell? ⟨p, 1, none⟩ = some (.int .i64 L) ∧ w'.cell? ⟨p, 2, none⟩ = some (.int .i64 C) ∧ w'.cell? ⟨p, 3, none⟩ = some (.slice (some ⟨q, off, none⟩) n cc) ∧ w'.cell? ⟨p, 4, none⟩ = some (.int .i64 k) ∧ w'.cell? ⟨p, 5, none⟩ = some (.int .i64 g) ∧ w'.cell? ⟨p, 6, none⟩ = some (.slice ta nt tc) ∧ w'.cell? ⟨p, 7, none⟩ = some (.slice fa nf fc) ∧ w'.cell? ⟨p, 8, none⟩ = some (.slice (some ⟨dg, 0, none⟩) n n) ∧ w'.cell? ⟨G, 0, none⟩ = some (.int .i64 op) ∧ w'.cell? ⟨G, 1, none⟩ = some (.int .i64 a)) (by kernel_rfl) ?hS49 (fun hHeld => ?rest49)
  case hS49 => exact ⟨k0, k1, k2, k3, k4, k5, k6, k7, k8, x0, x1⟩
  refine tk 0 ?_
  refine tk 1 ?_
  refine tk 2 ?_
  refine tk 3 ?_
  refine tk 4 ?_
  refine tk 5 ?_
  refine tk 6 ?_
  refine tk 7 ?_
  refine tk 8 ?_
  refine tk 9 ?_
  refine tk 10 ?_
  refine tk 11 ?_
  refine tk 12 ?_
  refine tk 13 ?_
  refine tk 14 ?_
  refine wpAnyH_ready (rs := [15]) (by kernel_rfl) (by simp) ?_
  refine AllReadyH.cons rfl (fun KK hK => ?_) AllReadyH.nil
  simp only [xa, xb, xc]
  go_simp
  refine (fwant_yes P L C (some ⟨q, off, none⟩) n cc k g ta nt tc fa nf fc _ _ _).mono ?_
  rintro e w9 ⟨rfl, o8⟩
  have o9 := ((Out.refl 0 0 _).drew).trans o8
  clear o8
  refine hK.out _ _ ?hS65 (fun hHeld2 => ?rest65)
  case hS65 => exact ⟨o9.cell k0 (.inr (Nat.zero_le _)), o9.cell k1 (.inr (Nat.zero_le _)), o9.cell k2 (.inr (Nat.zero_le _)), o9.cell k3 (.inr (Nat.zero_le _)), o9.cell k4 (.inr (Nat.zero_le _)), o9.cell k5 (.inr (Nat.zero_le _)), o9.cell k6 (.inr (Nat.zero_le _)), o9.cell k7 (.inr (Nat.zero_le _)), o9.cell k8 (.inr (Nat.zero_le _)), o9.cell x0 (.inr (Nat.zero_le _)), o9.cell x1 (.inr (Nat.zero_le _))⟩
  clear hK KK
  (try clear hHeld)
  have hHeld := hHeld2
  clear hHeld2
  (try simp only [Act.put, xa, xb, xc, xd, xe, xf])
  refine wpAnyH_done (by kernel_rfl) ?_ _
  clear hHeld
  replace k0 := o9.cell k0 (.inr (Nat.zero_le _)); replace k1 := o9.cell k1 (.inr (Nat.zero_le _)); replace k2 := o9.cell k2 (.inr (Nat.zero_le _)); replace k3 := o9.cell k3 (.inr (Nat.zero_le _)); replace k4 := o9.cell k4 (.inr (Nat.zero_le _)); replace k5 := o9.cell k5 (.inr (Nat.zero_le _)); replace k6 := o9.cell k6 (.inr (Nat.zero_le _)); replace k7 := o9.cell k7 (.inr (Nat.zero_le _)); replace k8 := o9.cell k8 (.inr (Nat.zero_le _))
  replace x0 := o9.cell x0 (.inr (Nat.zero_le _)); replace x1 := o9.cell x1 (.inr (Nat.zero_le _))
  replace HO := hid_mk (HO.out.trans o9)
  clear o9
  go_wp2_with fail
  refine (on_any P L C (some ⟨q, off, none⟩) n cc k g ta nt tc fa nf fc (WK.quiet HW.out HO.out) HWO.out _ m _ HM.out HR.out).mono ?_
  rintro e w7 (⟨s, ro', z1, rfl, z2, z3⟩ | ⟨z1, rfl, z2⟩)
  · rw [ho] at z1; cases z1
  · exact ⟨rfl, .inr ⟨76, rfl, rfl, (Fx.of_out HO.out).trans z2⟩⟩
end Go.Proofs.YtkghabmgofgclaaDoor
