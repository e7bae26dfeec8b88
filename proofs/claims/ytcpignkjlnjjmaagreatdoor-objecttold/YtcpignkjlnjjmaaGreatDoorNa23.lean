import Derived.Test.YtcpignkjlnjjmaaGreatDoorNa22
namespace Go.Proofs.YtcpignkjlnjjmaaGreatDoor
open Go.RowKit
set_option linter.unusedVariables false
set_option linter.unusedSimpArgs false

def enR (r : Raw) (a : Nat) (k z x t : Int) : Raw :=
  { r with W := updW (zeroW r.W a (roomN z)) a (makeV a k z), P := upd r.P a true, M := fun i => if i = (a : Int) then some (k, z, x, t) else r.M i, R := if 0 < x then (fun i => if i = x then some (a : Int) else r.R i) else r.R }
section
variable {w : World} {lo hi n cap : Nat} {s : Nat → Nat} {r : Raw}
theorem mapM_put (M : Int → Option Blk) (a : Int) (b : Blk) : (fun y => if y = a then some (blkV a b) else mapM M y) = mapM (fun i => if i = a then some b else M i) := by
  funext y
  unfold mapM
  by_cases e : y = a
  · subst e; simp
  · simp [e]
theorem mapR_put (R : Int → Option Int) (a : Int) (b : Int) : (fun y => if y = a then some (.int .i64 b) else mapR R y) = mapR (fun i => if i = a then some b else R i) := by
  funext y
  unfold mapR
  by_cases e : y = a
  · subst e; simp
  · simp [e]
set_option maxRecDepth 100000 in
set_option maxHeartbeats 4000000 in
theorem enter_any (h : RawAt w lo hi s n cap r) {a : Nat} {k z x t : Int} (z1 : 1 ≤ z) (z2 : z ≤ 1024) (hk : a + roomN z ≤ 64 * n) (ha : a < 64 * n) :
    Calls Tryz.prog 75 #[.pointer (some ⟨s 14, 0, none⟩), .agg #[.int .i64 (a : Int), .int .i64 k, .int .i64 z, .int .i64 x, .int .i64 t]] w fun e w' => (∃ v, e = .returned v) ∧ RawAt w' lo hi s n cap (enR r a k z x t) ∧ Out lo hi w w' := by
  have h0 : Out 0 0 w (w.alloc (bo (a : Int) k z x t)) := (Out.refl 0 0 w).alloc _
  have hq := h.quiet h0
  have HQ := hid_mk hq
  have H0 := hid_mk h0
  have HBX : Hid ((w.alloc (bo (a : Int) k z x t)).heap[w.heap.size]? = some (bo (a : Int) k z x t)) := heap_alloc_new _ _
  have HD : Hid (hi ≤ w.heap.size ∧ 4 ≤ w.heap.size ∧ n ≤ 4096 ∧ (s 12 < hi ∧ s 13 < hi ∧ s 11 < hi ∧ s 8 + 2 ≤ hi ∧ s 14 < hi) ∧ (s 14 < s 12 ∨ s 12 + 1 ≤ s 14) ∧ (s 14 < s 13 ∨ s 13 + 1 ≤ s 14) ∧ (s 14 < s 11 ∨ s 11 + 1 ≤ s 14) ∧ (s 14 < s 8 ∨ s 8 + 2 ≤ s 14)) := by
    have i12 := h.inn 12 (by omega)
    have i13 := h.inn 13 (by omega)
    have i11 := h.inn 11 (by omega)
    have i8 := h.inn 8 (by omega)
    have i14 := h.inn 14 (by omega)
    have a12 := h.apart 12 14 (by omega) (by omega) (by omega)
    have a13 := h.apart 13 14 (by omega) (by omega) (by omega)
    have a11 := h.apart 11 14 (by omega) (by omega) (by omega)
    have a8 := h.apart 8 14 (by omega) (by omega) (by omega)
    simp [ln] at i12 i13 i11 i8 i14 a12 a13 a11 a8
    exact ⟨h.top, h.tab.lt, h.n2, by omega, by omega, by omega, by omega, by omega⟩
  obtain ⟨o, cp, hsl, hol⟩ := islice_at (s 11) (64 * n) cap a (a + roomN z) (by omega) (by have := h.capn; omega)
  have hwr : IntKind.i64.wrap ((a : Int) + ((roomN z : Nat) : Int)) = ((a + roomN z : Nat) : Int) := by simp [IntKind.wrap, IntKind.signed, IntKind.bits]; have := HD.out.2.2.1; omega
  rw [← hwr, show a + roomN z - a = roomN z from by omega] at hsl
  have HK : Hid (a + roomN z ≤ 64 * n ∧ (0 < roomN z → o = a) ∧ a < 64 * n) := ⟨hk, (by rw [show a + roomN z - a = roomN z from by omega] at hol; exact hol), ha⟩
  have HRoom := hid_mk (fun w' => room_any z z1 z2 w')
  have HM := hid_mk (fun w' => hmake_any (a : Int) k z w')
  have b0 : (0 : Int) ≤ (a : Int) := by omega
  have b1 : (a : Int) < 64 * (n : Int) := by omega
  have b2 : (a : Int) < ((64 * n : Nat) : Int) := by omega
  have b3 : ((64 * n : Nat) : Int) ≤ 262144 := by have := HD.out.2.2.1; omega
  obtain ⟨d0, d1, d2, d3, d4, d5⟩ := hq.cells
  obtain ⟨q0, q1, q2, q3, q4⟩ := bo_facts HBX.out
  have hqd := hq.quiet ((Out.refl 0 0 _).drew)
  obtain ⟨wM, hmu, hmM, hoM⟩ := mp_put Tryz.underlying81 Tryz.underlying3 hqd.objs (a : Int) (.agg #[.int .i64 (a : Int), .int .i64 k, .int .i64 z, .int .i64 x, .int .i64 t])
  have HRM0 := hid_mk (hqd.setM (M' := fun i => if i = (a : Int) then some (k, z, x, t) else r.M i) hoM (by rw [← mapM_put]; exact hmM))
  unfold bo at *
  clear h h0 hq hqd hk ha z1 z2 hwr hol hmM
  go_enter Tryz.func75, Tryz.ntmps75
  go_wp2_with fail
  refine wp_region_held_drew (S := fun w' => w'.cell? ⟨s 14, 2, none⟩ = some (.map (some (s 12))) ∧ w'.cell? ⟨w.heap.size, 0, none⟩ = some (.int .i64 (a : Int)) ∧ w'.cell? ⟨w.heap.size, 1, none⟩ = some (.int .i64 k) ∧ w'.cell? ⟨w.heap.size, 2, none⟩ = some (.int .i64 z) ∧ w'.cell? ⟨w.heap.size, 3, none⟩ = some (.int .i64 x) ∧ w'.cell? ⟨w.heap.size, 4, none⟩ = some (.int .i64 t)) (by kernel_rfl) ?hS1 (fun hHeld => ?rest1)
  case hS1 => exact ⟨d2, q0, q1, q2, q3, q4⟩
  refine tk 0 ?_
  refine tk 1 ?_
  refine tk 2 ?_
  refine tk 3 ?_
  refine tk 4 ?_
  refine tk 5 ?_
  refine tk 6 ?_
  refine wpAnyH_ready (rs := [7]) (by kernel_rfl) (by simp) ?_
  refine AllReadyH.cons rfl (fun KK hK => ?_) AllReadyH.nil
  simp only [xa, xb, xc]
  go_simp
  refine hK.out _ _ ?hS9 (fun hHeld2 => ?rest9)
  case hS9 => exact ⟨hoM.cell hHeld.1 (by have := HD.out; omega), hoM.cell hHeld.2.1 (by have := HD.out; omega), hoM.cell hHeld.2.2.1 (by have := HD.out; omega), hoM.cell hHeld.2.2.2.1 (by have := HD.out; omega), hoM.cell hHeld.2.2.2.2.1 (by have := HD.out; omega), hoM.cell hHeld.2.2.2.2.2 (by have := HD.out; omega)⟩
  clear hK KK
  (try clear hHeld)
  have hHeld := hHeld2
  clear hHeld2
  (try simp only [Act.put, xa, xb, xc, xd, xe, xf])
  refine wpAnyH_done (by kernel_rfl) ?_ _
  clear hHeld
  have ho1 : Out lo hi (w.alloc (.cells #[.int .i64 (a : Int), .int .i64 k, .int .i64 z, .int .i64 x, .int .i64 t] 44)) wM := (((Out.refl 0 0 _).drew).any lo hi).trans (HQ.out.quiet ((Out.refl 0 0 _).drew) |>.wide (i := 12) (by omega) hoM)
  have HO1 := hid_mk ho1
  have HRM := hid_mk (HRM0.out.quiet ((Out.refl 0 0 _).drew))
  have HBM := hid_mk (ho1.heap HBX.out (.inr HD.out.1))
  clear d0 d1 d2 d3 d4 d5 q0 q1 q2 q3 q4 hmu hoM ho1
  obtain ⟨d0, d1, d2, d3, d4, d5⟩ := HRM0.out.cells
  obtain ⟨q0, q1, q2, q3, q4⟩ := bo_facts HBM.out
  go_wp2_with fail
  refine wp_region_held_drew (S := fun w' => w'.cell? ⟨s 14, 3, none⟩ = some (.pointer (some ⟨s 8 + 1, 0, none⟩)) ∧ w'.cell? ⟨w.heap.size, 0, none⟩ = some (.int .i64 (a : Int)) ∧ w'.cell? ⟨w.heap.size, 1, none⟩ = some (.int .i64 k) ∧ w'.cell? ⟨w.heap.size, 2, none⟩ = some (.int .i64 z) ∧ w'.cell? ⟨w.heap.size, 3, none⟩ = some (.int .i64 x) ∧ w'.cell? ⟨w.heap.size, 4, none⟩ = some (.int .i64 t)) (by kernel_rfl) ?hS10 (fun hHeld => ?rest10)
  case hS10 => exact ⟨d3, q0, q1, q2, q3, q4⟩
  refine tk 0 ?_
  refine tk 1 ?_
  refine tk 2 ?_
  refine tk 3 ?_
  refine tk 4 ?_
  refine tk 5 ?_
  refine wpAnyH_ready (rs := [6]) (by kernel_rfl) (by simp) ?_
  refine AllReadyH.cons rfl (fun KK hK => ?_) AllReadyH.nil
  simp only [xa, xb, xc]
  go_simp
  refine (set_any HRM.out.places (a : Int)).mono ?_
  rintro e w2 ⟨rfl, hmp, hop⟩
  refine hK.out _ _ ?hS17 (fun hHeld2 => ?rest17)
  case hS17 => exact ⟨hop.cell hHeld.1 (by have := HD.out; omega), hop.cell hHeld.2.1 (by have := HD.out; omega), hop.cell hHeld.2.2.1 (by have := HD.out; omega), hop.cell hHeld.2.2.2.1 (by have := HD.out; omega), hop.cell hHeld.2.2.2.2.1 (by have := HD.out; omega), hop.cell hHeld.2.2.2.2.2 (by have := HD.out; omega)⟩
  clear hK KK
  (try clear hHeld)
  have hHeld := hHeld2
  clear hHeld2
  (try simp only [Act.put, xa, xb, xc, xd, xe, xf])
  refine wpAnyH_done (by kernel_rfl) ?_ _
  clear hHeld
  have ho2 := HO1.out.trans ((((Out.refl 0 0 wM).drew).any lo hi).trans (HRM.out.wide (i := 8) (by omega) hop))
  have HR2 := hid_mk (HRM.out.setP hop hmp)
  have HO2 := hid_mk ho2
  have HB2 := hid_mk (ho2.heap HBX.out (.inr HD.out.1))
  have hPe : Hid (setS r.P (64 * n) (a : Int) true = upd r.P a true) := by
    show _ = _
    unfold setS
    rw [if_pos (show inB (64 * n) (a : Int) = true from by unfold inB; simp; have := HK.out.2.2; omega)]
    rfl
  clear d0 d1 d2 d3 d4 d5 q0 q1 q2 q3 q4 hmp hop ho2
  obtain ⟨d0, d1, d2, d3, d4, d5⟩ := HR2.out.cells
  obtain ⟨q0, q1, q2, q3, q4⟩ := bo_facts HB2.out
  by_cases hx : 0 < x
  · have hRe : Hid ((fun i => if i = x then some (a : Int) else r.R i) = (if 0 < x then (fun i => if i = x then some (a : Int) else r.R i) else r.R)) := by show _ = _; rw [if_pos hx]
    have hqd := HR2.out.quiet ((Out.refl 0 0 _).drew)
    obtain ⟨w3, hmu, hmR, hoR⟩ := mp_put Tryz.underlying84 Tryz.underlying3 hqd.sers x (.int .i64 (a : Int))
    have HR3 := hid_mk (hqd.setR (R' := fun i => if i = x then some (a : Int) else r.R i) hoR (by rw [← mapR_put]; exact hmR))
    have ho3 := HO2.out.trans ((((Out.refl 0 0 w2).drew).any lo hi).trans (hqd.wide (i := 13) (by omega) hoR))
    have HO3 := hid_mk ho3
    have HB3 := hid_mk (ho3.heap HBX.out (.inr HD.out.1))
    clear hqd hmR ho3
    go_wp2_with fail
    refine wp_region_held_drew (S := fun w' => w'.cell? ⟨s 14, 12, none⟩ = some (.map (some (s 13))) ∧ w'.cell? ⟨w.heap.size, 0, none⟩ = some (.int .i64 (a : Int)) ∧ w'.cell? ⟨w.heap.size, 1, none⟩ = some (.int .i64 k) ∧ w'.cell? ⟨w.heap.size, 2, none⟩ = some (.int .i64 z) ∧ w'.cell? ⟨w.heap.size, 3, none⟩ = some (.int .i64 x) ∧ w'.cell? ⟨w.heap.size, 4, none⟩ = some (.int .i64 t)) (by kernel_rfl) ?hS18 (fun hHeld => ?rest18)
    case hS18 => exact ⟨d4, q0, q1, q2, q3, q4⟩
    refine tk 0 ?_
    refine tk 1 ?_
    refine tk 2 ?_
    refine tk 3 ?_
    refine tk 4 ?_
    refine tk 5 ?_
    refine tk 6 ?_
    refine tk 7 ?_
    refine wpAnyH_ready (rs := [8]) (by kernel_rfl) (by simp) ?_
    refine AllReadyH.cons rfl (fun KK hK => ?_) AllReadyH.nil
    simp only [xa, xb, xc]
    go_simp
    refine hK.out _ _ ?hS27 (fun hHeld2 => ?rest27)
    case hS27 => exact ⟨hoR.cell hHeld.1 (by have := HD.out; omega), hoR.cell hHeld.2.1 (by have := HD.out; omega), hoR.cell hHeld.2.2.1 (by have := HD.out; omega), hoR.cell hHeld.2.2.2.1 (by have := HD.out; omega), hoR.cell hHeld.2.2.2.2.1 (by have := HD.out; omega), hoR.cell hHeld.2.2.2.2.2 (by have := HD.out; omega)⟩
    clear hK KK
    (try clear hHeld)
    have hHeld := hHeld2
    clear hHeld2
    (try simp only [Act.put, xa, xb, xc, xd, xe, xf])
    refine wpAnyH_done (by kernel_rfl) ?_ _
    clear hHeld
    clear d0 d1 d2 d3 d4 d5 q0 q1 q2 q3 q4 hmu hoR
    obtain ⟨d0, d1, d2, d3, d4, d5⟩ := HR3.out.cells
    obtain ⟨q0, q1, q2, q3, q4⟩ := bo_facts HB3.out
    have HRR := HR3
    go_wp2_with fail
    refine wp_region_held_drew (S := fun w' => w'.cell? ⟨s 14, 0, none⟩ = some (.slice (some ⟨s 11, 0, none⟩) (64 * n) cap) ∧ w'.cell? ⟨w.heap.size, 0, none⟩ = some (.int .i64 (a : Int)) ∧ w'.cell? ⟨w.heap.size, 1, none⟩ = some (.int .i64 k) ∧ w'.cell? ⟨w.heap.size, 2, none⟩ = some (.int .i64 z) ∧ w'.cell? ⟨w.heap.size, 3, none⟩ = some (.int .i64 x) ∧ w'.cell? ⟨w.heap.size, 4, none⟩ = some (.int .i64 t)) (by kernel_rfl) ?hS28 (fun hHeld => ?rest28)
    case hS28 => exact ⟨d0, q0, q1, q2, q3, q4⟩
    refine tk 0 ?_
    refine tk 1 ?_
    refine tk 2 ?_
    refine tk 3 ?_
    refine tk 4 ?_
    refine tk 5 ?_
    refine tk 6 ?_
    refine tk 7 ?_
    refine tk 8 ?_
    refine tk 9 ?_
    refine wpAnyH_ready (rs := [10]) (by kernel_rfl) (by simp) ?_
    refine AllReadyH.cons rfl (fun KK hK => ?_) AllReadyH.nil
    simp only [xa, xb, xc]
    go_simp
    refine (HRoom.out _).mono ?_
    rintro e w5 ⟨rfl, hoo⟩
    obtain ⟨w6, hcl, hr6, ho6⟩ := (HRR.out.quiet (((Out.refl 0 0 _).drew).trans hoo)).clear (a := a) (k := roomN z) (o := o) (cp := cp) HK.out.1 HK.out.2.1
    refine hK.out _ _ ?hS39 (fun hHeld2 => ?rest39)
    case hS39 => exact ⟨hoo.cell hHeld.1 (.inr (Nat.zero_le _)), hoo.cell hHeld.2.1 (.inr (Nat.zero_le _)), hoo.cell hHeld.2.2.1 (.inr (Nat.zero_le _)), hoo.cell hHeld.2.2.2.1 (.inr (Nat.zero_le _)), hoo.cell hHeld.2.2.2.2.1 (.inr (Nat.zero_le _)), hoo.cell hHeld.2.2.2.2.2 (.inr (Nat.zero_le _))⟩
    clear hK KK
    (try clear hHeld)
    have hHeld := hHeld2
    clear hHeld2
    (try simp only [Act.put, xa, xb, xc, xd, xe, xf])
    refine tk 11 ?_
    refine tk 12 ?_
    refine wpAnyH_ready (rs := [13]) (by kernel_rfl) (by simp) ?_
    refine AllReadyH.cons rfl (fun KK hK => ?_) AllReadyH.nil
    simp only [xa, xb, xc]
    go_simp
    refine hK.out _ _ ?hS42 (fun hHeld2 => ?rest42)
    case hS42 => exact ⟨ho6.cell hHeld.1 (by have := HD.out; omega), ho6.cell hHeld.2.1 (by have := HD.out; omega), ho6.cell hHeld.2.2.1 (by have := HD.out; omega), ho6.cell hHeld.2.2.2.1 (by have := HD.out; omega), ho6.cell hHeld.2.2.2.2.1 (by have := HD.out; omega), ho6.cell hHeld.2.2.2.2.2 (by have := HD.out; omega)⟩
    clear hK KK
    (try clear hHeld)
    have hHeld := hHeld2
    clear hHeld2
    (try simp only [Act.put, xa, xb, xc, xd, xe, xf])
    refine wpAnyH_done (by kernel_rfl) ?_ _
    clear hHeld
    have ho6' := HO3.out.trans ((((Out.refl 0 0 w3).drew).trans hoo).any lo hi |>.trans ((HRR.out.quiet (((Out.refl 0 0 _).drew).trans hoo)).wide (i := 11) (by omega) ho6))
    have HR6 := hid_mk hr6
    have HO6 := hid_mk ho6'
    have HB6 := hid_mk (ho6'.heap HBX.out (.inr HD.out.1))
    clear hoo hcl hr6 ho6 ho6' d0 d1 d2 d3 d4 d5 q0 q1 q2 q3 q4
    obtain ⟨d0, d1, d2, d3, d4, d5⟩ := HR6.out.cells
    obtain ⟨q0, q1, q2, q3, q4⟩ := bo_facts HB6.out
    have e0 := HR6.out.words.cell HK.out.2.2
    have e1 := HR6.out.words.frozen a
    have ho9 : ∀ v, Out (s 11) (s 11 + 1) w6.drew (w6.drew.setCell ⟨s 11, a, none⟩ v) := fun v => (Out.refl _ _ _).setCell (.inl ⟨Nat.le_refl _, Nat.lt_succ_self _⟩) _
    go_wp2_with fail
    refine wp_region_held_drew (S := fun w' => w'.cell? ⟨s 14, 0, none⟩ = some (.slice (some ⟨s 11, 0, none⟩) (64 * n) cap) ∧ w'.cell? ⟨w.heap.size, 0, none⟩ = some (.int .i64 (a : Int)) ∧ w'.cell? ⟨w.heap.size, 1, none⟩ = some (.int .i64 k) ∧ w'.cell? ⟨w.heap.size, 2, none⟩ = some (.int .i64 z) ∧ w'.cell? ⟨w.heap.size, 3, none⟩ = some (.int .i64 x) ∧ w'.cell? ⟨w.heap.size, 4, none⟩ = some (.int .i64 t)) (by kernel_rfl) ?hS43 (fun hHeld => ?rest43)
    case hS43 => exact ⟨d0, q0, q1, q2, q3, q4⟩
    refine tk 0 ?_
    refine tk 1 ?_
    refine tk 2 ?_
    refine tk 3 ?_
    refine tk 4 ?_
    refine tk 5 ?_
    refine tk 6 ?_
    refine tk 7 ?_
    refine tk 8 ?_
    refine tk 9 ?_
    refine tk 10 ?_
    refine tk 11 ?_
    refine wpAnyH_ready (rs := [12]) (by kernel_rfl) (by simp) ?_
    refine AllReadyH.cons rfl (fun KK hK => ?_) AllReadyH.nil
    simp only [xa, xb, xc]
    go_simp
    refine (HM.out _).mono ?_
    rintro e w7 ⟨rfl, rfl⟩
    refine hK.out _ _ ?hS56 (fun hHeld2 => ?rest56)
    case hS56 => exact hHeld
    clear hK KK
    (try clear hHeld)
    have hHeld := hHeld2
    clear hHeld2
    (try simp only [Act.put, xa, xb, xc, xd, xe, xf])
    refine tk 13 ?_
    refine wpAnyH_ready (rs := [14]) (by kernel_rfl) (by simp) ?_
    refine AllReadyH.cons rfl (fun KK hK => ?_) AllReadyH.nil
    simp only [xa, xb, xc]
    go_simp
    refine hK.out _ _ ?hS58 (fun hHeld2 => ?rest58)
    case hS58 => exact ⟨(ho9 _).cell hHeld.1 (by have := HD.out; omega), (ho9 _).cell hHeld.2.1 (by have := HD.out; omega), (ho9 _).cell hHeld.2.2.1 (by have := HD.out; omega), (ho9 _).cell hHeld.2.2.2.1 (by have := HD.out; omega), (ho9 _).cell hHeld.2.2.2.2.1 (by have := HD.out; omega), (ho9 _).cell hHeld.2.2.2.2.2 (by have := HD.out; omega)⟩
    clear hK KK
    (try clear hHeld)
    have hHeld := hHeld2
    clear hHeld2
    (try simp only [Act.put, xa, xb, xc, xd, xe, xf])
    refine wpAnyH_done (by kernel_rfl) ?_ _
    clear hHeld
    go_wp2
    have hp := (HR6.out.quiet ((Out.refl 0 0 _).drew)).poke a (makeV (a : Int) k z)
    refine bodyPost_end (results_none Tryz.results75 _ _ _) rfl ⟨⟨_, rfl⟩, hp.1.congr ?_, ((H0.out.any lo hi).trans HO6.out).trans ((((Out.refl 0 0 _).drew).any lo hi).trans ((HR6.out.quiet ((Out.refl 0 0 _).drew)).wide (i := 11) (by omega) hp.2))⟩
    refine Raw.eq rfl rfl rfl ?_ rfl ?_ rfl
    · exact hPe.out
    · exact hRe.out
  · have hRe : Hid (r.R = (if 0 < x then (fun i => if i = x then some (a : Int) else r.R i) else r.R)) := by show _ = _; rw [if_neg hx]
    have hx' : x ≤ 0 := by omega
    obtain ⟨w3, rfl⟩ : ∃ w3, w3 = w2 := ⟨_, rfl⟩
    have HO3 := HO2
    have HRR := HR2
    clear hx
    go_wp2_with fail
    refine wp_region_held_drew (S := fun w' => w'.cell? ⟨s 14, 0, none⟩ = some (.slice (some ⟨s 11, 0, none⟩) (64 * n) cap) ∧ w'.cell? ⟨w.heap.size, 0, none⟩ = some (.int .i64 (a : Int)) ∧ w'.cell? ⟨w.heap.size, 1, none⟩ = some (.int .i64 k) ∧ w'.cell? ⟨w.heap.size, 2, none⟩ = some (.int .i64 z) ∧ w'.cell? ⟨w.heap.size, 3, none⟩ = some (.int .i64 x) ∧ w'.cell? ⟨w.heap.size, 4, none⟩ = some (.int .i64 t)) (by kernel_rfl) ?hS59 (fun hHeld => ?rest59)
    case hS59 => exact ⟨d0, q0, q1, q2, q3, q4⟩
    refine tk 0 ?_
    refine tk 1 ?_
    refine tk 2 ?_
    refine tk 3 ?_
    refine tk 4 ?_
    refine tk 5 ?_
    refine tk 6 ?_
    refine tk 7 ?_
    refine tk 8 ?_
    refine tk 9 ?_
    refine wpAnyH_ready (rs := [10]) (by kernel_rfl) (by simp) ?_
    refine AllReadyH.cons rfl (fun KK hK => ?_) AllReadyH.nil
    simp only [xa, xb, xc]
    go_simp
    refine (HRoom.out _).mono ?_
    rintro e w5 ⟨rfl, hoo⟩
    obtain ⟨w6, hcl, hr6, ho6⟩ := (HRR.out.quiet (((Out.refl 0 0 _).drew).trans hoo)).clear (a := a) (k := roomN z) (o := o) (cp := cp) HK.out.1 HK.out.2.1
    refine hK.out _ _ ?hS70 (fun hHeld2 => ?rest70)
    case hS70 => exact ⟨hoo.cell hHeld.1 (.inr (Nat.zero_le _)), hoo.cell hHeld.2.1 (.inr (Nat.zero_le _)), hoo.cell hHeld.2.2.1 (.inr (Nat.zero_le _)), hoo.cell hHeld.2.2.2.1 (.inr (Nat.zero_le _)), hoo.cell hHeld.2.2.2.2.1 (.inr (Nat.zero_le _)), hoo.cell hHeld.2.2.2.2.2 (.inr (Nat.zero_le _))⟩
    clear hK KK
    (try clear hHeld)
    have hHeld := hHeld2
    clear hHeld2
    (try simp only [Act.put, xa, xb, xc, xd, xe, xf])
    refine tk 11 ?_
    refine tk 12 ?_
    refine wpAnyH_ready (rs := [13]) (by kernel_rfl) (by simp) ?_
    refine AllReadyH.cons rfl (fun KK hK => ?_) AllReadyH.nil
    simp only [xa, xb, xc]
    go_simp
    refine hK.out _ _ ?hS73 (fun hHeld2 => ?rest73)
    case hS73 => exact ⟨ho6.cell hHeld.1 (by have := HD.out; omega), ho6.cell hHeld.2.1 (by have := HD.out; omega), ho6.cell hHeld.2.2.1 (by have := HD.out; omega), ho6.cell hHeld.2.2.2.1 (by have := HD.out; omega), ho6.cell hHeld.2.2.2.2.1 (by have := HD.out; omega), ho6.cell hHeld.2.2.2.2.2 (by have := HD.out; omega)⟩
    clear hK KK
    (try clear hHeld)
    have hHeld := hHeld2
    clear hHeld2
    (try simp only [Act.put, xa, xb, xc, xd, xe, xf])
    refine wpAnyH_done (by kernel_rfl) ?_ _
    clear hHeld
    have ho6' := HO3.out.trans ((((Out.refl 0 0 w3).drew).trans hoo).any lo hi |>.trans ((HRR.out.quiet (((Out.refl 0 0 _).drew).trans hoo)).wide (i := 11) (by omega) ho6))
    have HR6 := hid_mk hr6
    have HO6 := hid_mk ho6'
    have HB6 := hid_mk (ho6'.heap HBX.out (.inr HD.out.1))
    clear hoo hcl hr6 ho6 ho6' d0 d1 d2 d3 d4 d5 q0 q1 q2 q3 q4
    obtain ⟨d0, d1, d2, d3, d4, d5⟩ := HR6.out.cells
    obtain ⟨q0, q1, q2, q3, q4⟩ := bo_facts HB6.out
    have e0 := HR6.out.words.cell HK.out.2.2
    have e1 := HR6.out.words.frozen a
    have ho9 : ∀ v, Out (s 11) (s 11 + 1) w6.drew (w6.drew.setCell ⟨s 11, a, none⟩ v) := fun v => (Out.refl _ _ _).setCell (.inl ⟨Nat.le_refl _, Nat.lt_succ_self _⟩) _
    go_wp2_with fail
    refine wp_region_held_drew (S := fun w' => w'.cell? ⟨s 14, 0, none⟩ = some (.slice (some ⟨s 11, 0, none⟩) (64 * n) cap) ∧ w'.cell? ⟨w.heap.size, 0, none⟩ = some (.int .i64 (a : Int)) ∧ w'.cell? ⟨w.heap.size, 1, none⟩ = some (.int .i64 k) ∧ w'.cell? ⟨w.heap.size, 2, none⟩ = some (.int .i64 z) ∧ w'.cell? ⟨w.heap.size, 3, none⟩ = some (.int .i64 x) ∧ w'.cell? ⟨w.heap.size, 4, none⟩ = some (.int .i64 t)) (by kernel_rfl) ?hS74 (fun hHeld => ?rest74)
    case hS74 => exact ⟨d0, q0, q1, q2, q3, q4⟩
    refine tk 0 ?_
    refine tk 1 ?_
    refine tk 2 ?_
    refine tk 3 ?_
    refine tk 4 ?_
    refine tk 5 ?_
    refine tk 6 ?_
    refine tk 7 ?_
    refine tk 8 ?_
    refine tk 9 ?_
    refine tk 10 ?_
    refine tk 11 ?_
    refine wpAnyH_ready (rs := [12]) (by kernel_rfl) (by simp) ?_
    refine AllReadyH.cons rfl (fun KK hK => ?_) AllReadyH.nil
    simp only [xa, xb, xc]
    go_simp
    refine (HM.out _).mono ?_
    rintro e w7 ⟨rfl, rfl⟩
    refine hK.out _ _ ?hS87 (fun hHeld2 => ?rest87)
    case hS87 => exact hHeld
    clear hK KK
    (try clear hHeld)
    have hHeld := hHeld2
    clear hHeld2
    (try simp only [Act.put, xa, xb, xc, xd, xe, xf])
    refine tk 13 ?_
    refine wpAnyH_ready (rs := [14]) (by kernel_rfl) (by simp) ?_
    refine AllReadyH.cons rfl (fun KK hK => ?_) AllReadyH.nil
    simp only [xa, xb, xc]
    go_simp
    refine hK.out _ _ ?hS89 (fun hHeld2 => ?rest89)
    case hS89 => exact ⟨(ho9 _).cell hHeld.1 (by have := HD.out; omega), (ho9 _).cell hHeld.2.1 (by have := HD.out; omega), (ho9 _).cell hHeld.2.2.1 (by have := HD.out; omega), (ho9 _).cell hHeld.2.2.2.1 (by have := HD.out; omega), (ho9 _).cell hHeld.2.2.2.2.1 (by have := HD.out; omega), (ho9 _).cell hHeld.2.2.2.2.2 (by have := HD.out; omega)⟩
    clear hK KK
    (try clear hHeld)
    have hHeld := hHeld2
    clear hHeld2
    (try simp only [Act.put, xa, xb, xc, xd, xe, xf])
    refine wpAnyH_done (by kernel_rfl) ?_ _
    clear hHeld
    go_wp2
    have hp := (HR6.out.quiet ((Out.refl 0 0 _).drew)).poke a (makeV (a : Int) k z)
    refine bodyPost_end (results_none Tryz.results75 _ _ _) rfl ⟨⟨_, rfl⟩, hp.1.congr ?_, ((H0.out.any lo hi).trans HO6.out).trans ((((Out.refl 0 0 _).drew).any lo hi).trans ((HR6.out.quiet ((Out.refl 0 0 _).drew)).wide (i := 11) (by omega) hp.2))⟩
    refine Raw.eq rfl rfl rfl ?_ rfl ?_ rfl
    · exact hPe.out
    · exact hRe.out
end
end Go.Proofs.YtcpignkjlnjjmaaGreatDoor
