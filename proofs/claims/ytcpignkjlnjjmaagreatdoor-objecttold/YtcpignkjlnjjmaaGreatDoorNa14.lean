import Derived.Test.YtcpignkjlnjjmaaGreatDoorNa13
namespace Go.Proofs.YtcpignkjlnjjmaaGreatDoor
open Go.RowKit
set_option linter.unusedVariables false
set_option linter.unusedSimpArgs false

/-- is a word right for a role of the object (ba, b)? -/
def rgB (r : Raw) (ba : Int) (b : Blk) (role v : Int) : Bool :=
  if role = 0 ∨ role = 1 then role == 1 else if validB_v (v % 8 + 1) (v / 8) = true then (if v % 8 + 1 = 2 then (match r.M (v / 8) with | some t => leadsB ba b role (v / 8) t | none => false) else plainB role || (v % 8 + 1 == 3 && v / 8 == 0)) else false
theorem val_facts {w : World} {g : Nat} {k m : Int} (h : w.heap[g]? = some (.cells #[.int .i64 k, .int .i64 m] 31 (0, 0))) : w.cell? ⟨g, 0, none⟩ = some (.int .i64 k) ∧ w.cell? ⟨g, 1, none⟩ = some (.int .i64 m) ∧ w.frozen? ⟨g, 0, none⟩ = false ∧ w.frozen? ⟨g, 1, none⟩ = false := by
  simp [World.cell?, World.frozen?, h]
theorem read_yes {v k m : Int} (hk : v % 8 + 1 = k) (hm : v / 8 = m) (hv : validB_v k m = true) (w : World) : Calls Tryz.prog 37 #[.int .i64 v] w fun e w' => e = .returned (.tuple #[.agg #[.int .i64 k, .int .i64 m], .bool true]) ∧ Out 0 0 w w' := by
  refine (read_any_v v w).mono ?_
  rintro e w' ⟨rfl, h⟩
  rw [hk, hm, hv]
  unfold mkK_v mkN_v
  rw [if_pos hv, if_pos hv]
  exact ⟨rfl, out_below h⟩
theorem read_no {v k m : Int} (hk : v % 8 + 1 = k) (hm : v / 8 = m) (hv : validB_v k m = false) (w : World) : Calls Tryz.prog 37 #[.int .i64 v] w fun e w' => e = .returned (.tuple #[.agg #[.int .i64 0, .int .i64 0], .bool false]) ∧ Out 0 0 w w' := by
  refine (read_any_v v w).mono ?_
  rintro e w' ⟨rfl, h⟩
  rw [hk, hm, hv]
  unfold mkK_v mkN_v
  rw [if_neg (by simp [hv]), if_neg (by simp [hv])]
  exact ⟨rfl, out_below h⟩
theorem mk30 : mkK_v 3 0 = 3 ∧ mkN_v 3 0 = 0 := by decide
section
variable {w : World} {lo hi hb : Nat} {s : Nat → Nat} {n cap : Nat} {r : Raw}
theorem right_raw (hb : Nat) (ba bk bz bx bt role v : Int) (h : role = 0 ∨ role = 1) (w : World) : Calls Tryz.prog 35 #[.pointer (some ⟨hb, 0, none⟩), .agg #[.int .i64 ba, .int .i64 bk, .int .i64 bz, .int .i64 bx, .int .i64 bt], .int .i64 role, .int .i64 v] w fun e w' => e = .returned (.bool (role == 1)) ∧ Out 0 0 w w' := by
  rcases h with rfl | rfl <;>
  · go_enter Tryz.func35, Tryz.ntmps35
    go_wp2
    go_ret
    exact ⟨rfl, (Out.refl 0 0 w).alloc _⟩
set_option maxRecDepth 100000 in
set_option maxHeartbeats 4000000 in
theorem right_wrong (hb : Nat) (ba bk bz bx bt role : Int) {v k m : Int} (h : role ≠ 0 ∧ role ≠ 1) (hk : v % 8 + 1 = k) (hm : v / 8 = m) (hv : validB_v k m = false) : Calls Tryz.prog 35 #[.pointer (some ⟨hb, 0, none⟩), .agg #[.int .i64 ba, .int .i64 bk, .int .i64 bz, .int .i64 bx, .int .i64 bt], .int .i64 role, .int .i64 v] w fun e w' => e = .returned (.bool false) ∧ Out 0 0 w w' := by
  have r0 : (role == 0) = false := by simp; omega
  have r1 : (role == 1) = false := by simp; omega
  have HF := hid_mk (heap_alloc_new w (.cells #[.int .i64 ba, .int .i64 bk, .int .i64 bz, .int .i64 bx, .int .i64 bt] 44))
  have HRd := hid_mk (fun V => read_no hk hm hv V)
  have HW := hid_mk ((Out.refl 0 0 w).alloc (.cells #[.int .i64 ba, .int .i64 bk, .int .i64 bz, .int .i64 bx, .int .i64 bt] 44))
  clear h hk hm hv
  obtain ⟨gb, hgb⟩ : ∃ g, w.heap.size = g := ⟨_, rfl⟩
  obtain ⟨W, hW⟩ : ∃ W, w.alloc (.cells #[.int .i64 ba, .int .i64 bk, .int .i64 bz, .int .i64 bx, .int .i64 bt] 44) = W := ⟨_, rfl⟩
  rw [hW, hgb] at HF
  rw [hW] at HW
  go_enter Tryz.func35, Tryz.ntmps35
  go_wp2_with fail
  (try rw [hW])
  (try rw [hgb])
  clear hW
  refine (HRd.out _).mono ?_
  rintro e w1 ⟨rfl, o1⟩
  go_wp2
  go_ret
  exact ⟨rfl, (HW.out.trans o1).alloc _⟩
set_option maxRecDepth 100000 in
set_option maxHeartbeats 4000000 in
theorem right_plain_true (hb : Nat) (ba bk bz bx bt role : Int) {v k m : Int} (h : role ≠ 0 ∧ role ≠ 1) (hk : v % 8 + 1 = k) (hm : v / 8 = m) (hv : validB_v k m = true) (h2 : k ≠ 2) (hp : plainB role = true) : Calls Tryz.prog 35 #[.pointer (some ⟨hb, 0, none⟩), .agg #[.int .i64 ba, .int .i64 bk, .int .i64 bz, .int .i64 bx, .int .i64 bt], .int .i64 role, .int .i64 v] w fun e w' => e = .returned (.bool true) ∧ Out 0 0 w w' := by
  have k2 : (k == 2) = false := by simpa using h2
  have HPl := hid_mk (fun V => plain_any role V)
  rw [hp] at HPl
  clear hp h2
  have r0 : (role == 0) = false := by simp; omega
  have r1 : (role == 1) = false := by simp; omega
  have HF := hid_mk (heap_alloc_new w (.cells #[.int .i64 ba, .int .i64 bk, .int .i64 bz, .int .i64 bx, .int .i64 bt] 44))
  have HRd := hid_mk (fun V => read_yes hk hm hv V)
  have HW := hid_mk ((Out.refl 0 0 w).alloc (.cells #[.int .i64 ba, .int .i64 bk, .int .i64 bz, .int .i64 bx, .int .i64 bt] 44))
  clear h hk hm hv
  obtain ⟨gb, hgb⟩ : ∃ g, w.heap.size = g := ⟨_, rfl⟩
  obtain ⟨W, hW⟩ : ∃ W, w.alloc (.cells #[.int .i64 ba, .int .i64 bk, .int .i64 bz, .int .i64 bx, .int .i64 bt] 44) = W := ⟨_, rfl⟩
  rw [hW, hgb] at HF
  rw [hW] at HW
  go_enter Tryz.func35, Tryz.ntmps35
  go_wp2_with fail
  (try rw [hW])
  (try rw [hgb])
  clear hW
  refine (HRd.out _).mono ?_
  rintro e w1 ⟨rfl, o1⟩
  have fV := hid_mk (heap_alloc_new w1 (.cells #[.int .i64 k, .int .i64 m] 31))
  obtain ⟨gv, hgv⟩ : ∃ g, w1.heap.size = g := ⟨_, rfl⟩
  obtain ⟨V2, hV2⟩ : ∃ V, w1.alloc (.cells #[.int .i64 k, .int .i64 m] 31) = V := ⟨_, rfl⟩
  have O2 : Out 0 0 w V2 := by rw [← hV2]; exact (HW.out.trans o1).alloc _
  have oWV : Out 0 0 W V2 := by rw [← hV2]; exact o1.alloc _
  rw [hV2, hgv] at fV
  have HO2 := hid_mk O2
  have HOW := hid_mk oWV
  obtain ⟨u0, u1, u2, u3⟩ := val_facts fV.out
  clear O2 oWV o1
  go_wp2_with fail
  (try rw [hV2])
  (try rw [hgv])
  clear hV2
  refine wp_region_held_drew (S := fun w' => w'.cell? ⟨gv, 0, none⟩ = some (.int .i64 k) ∧ w'.cell? ⟨gv, 1, none⟩ = some (.int .i64 m) ∧ Out 0 0 w w') (by kernel_rfl) ?hS1 (fun hHeld => ?rest1)
  case hS1 => exact ⟨u0, u1, HO2.out.drew⟩
  refine tk 0 ?_
  refine wpAnyH_ready (rs := [1]) (by kernel_rfl) (by simp) ?_
  refine AllReadyH.cons rfl (fun KK hK => ?_) AllReadyH.nil
  simp only [xa, xb, xc]
  go_simp
  refine (HPl.out _).mono ?_
  rintro e w5 ⟨rfl, he⟩
  rw [he]
  clear he w5
  refine hK.out _ _ ?hS3 (fun hHeld2 => ?rest3)
  case hS3 => exact hHeld
  clear hK KK
  (try clear hHeld)
  have hHeld := hHeld2
  clear hHeld2
  (try simp only [Act.put, xa, xb, xc, xd, xe, xf])
  refine tk 2 ?_
  refine sk 3 ?_
  refine sk 4 ?_
  refine sk 5 ?_
  refine tk 6 ?_
  refine tk 7 ?_
  refine wpAnyH_done (by kernel_rfl) ?_ _
  have HE := hid_mk hHeld.2.2
  clear hHeld
  go_wp2
  go_ret
  exact ⟨rfl, HE.out⟩
set_option maxRecDepth 100000 in
set_option maxHeartbeats 4000000 in
theorem right_plain_false (hb : Nat) (ba bk bz bx bt role : Int) {v k m : Int} (h : role ≠ 0 ∧ role ≠ 1) (hk : v % 8 + 1 = k) (hm : v / 8 = m) (hv : validB_v k m = true) (h2 : k ≠ 2) (hp : plainB role = false) : Calls Tryz.prog 35 #[.pointer (some ⟨hb, 0, none⟩), .agg #[.int .i64 ba, .int .i64 bk, .int .i64 bz, .int .i64 bx, .int .i64 bt], .int .i64 role, .int .i64 v] w fun e w' => e = .returned (.bool (k == 3 && m == 0)) ∧ Out 0 0 w w' := by
  have k2 : (k == 2) = false := by simpa using h2
  have HPl := hid_mk (fun V => plain_any role V)
  rw [hp] at HPl
  clear hp h2
  have r0 : (role == 0) = false := by simp; omega
  have r1 : (role == 1) = false := by simp; omega
  have HF := hid_mk (heap_alloc_new w (.cells #[.int .i64 ba, .int .i64 bk, .int .i64 bz, .int .i64 bx, .int .i64 bt] 44))
  have HRd := hid_mk (fun V => read_yes hk hm hv V)
  have HW := hid_mk ((Out.refl 0 0 w).alloc (.cells #[.int .i64 ba, .int .i64 bk, .int .i64 bz, .int .i64 bx, .int .i64 bt] 44))
  clear h hk hm hv
  obtain ⟨gb, hgb⟩ : ∃ g, w.heap.size = g := ⟨_, rfl⟩
  obtain ⟨W, hW⟩ : ∃ W, w.alloc (.cells #[.int .i64 ba, .int .i64 bk, .int .i64 bz, .int .i64 bx, .int .i64 bt] 44) = W := ⟨_, rfl⟩
  rw [hW, hgb] at HF
  rw [hW] at HW
  go_enter Tryz.func35, Tryz.ntmps35
  go_wp2_with fail
  (try rw [hW])
  (try rw [hgb])
  clear hW
  refine (HRd.out _).mono ?_
  rintro e w1 ⟨rfl, o1⟩
  have fV := hid_mk (heap_alloc_new w1 (.cells #[.int .i64 k, .int .i64 m] 31))
  obtain ⟨gv, hgv⟩ : ∃ g, w1.heap.size = g := ⟨_, rfl⟩
  obtain ⟨V2, hV2⟩ : ∃ V, w1.alloc (.cells #[.int .i64 k, .int .i64 m] 31) = V := ⟨_, rfl⟩
  have O2 : Out 0 0 w V2 := by rw [← hV2]; exact (HW.out.trans o1).alloc _
  have oWV : Out 0 0 W V2 := by rw [← hV2]; exact o1.alloc _
  rw [hV2, hgv] at fV
  have HO2 := hid_mk O2
  have HOW := hid_mk oWV
  obtain ⟨u0, u1, u2, u3⟩ := val_facts fV.out
  clear O2 oWV o1
  go_wp2_with fail
  (try rw [hV2])
  (try rw [hgv])
  clear hV2
  have hE : ∀ W, (binOp .eql 31 (.agg #[.int .i64 k, .int .i64 m]) (.agg #[.int .i64 3, .int .i64 0])).run Tryz.prog W = .ok (.bool (k == 3 && m == 0)) W := fun W => eqv k m 3 0 W
  refine wp_region_held_drew (S := fun w' => w'.cell? ⟨gv, 0, none⟩ = some (.int .i64 k) ∧ w'.cell? ⟨gv, 1, none⟩ = some (.int .i64 m) ∧ Out 0 0 w w') (by kernel_rfl) ?hS10 (fun hHeld => ?rest10)
  case hS10 => exact ⟨u0, u1, HO2.out.drew⟩
  refine tk 0 ?_
  refine wpAnyH_ready (rs := [1]) (by kernel_rfl) (by simp) ?_
  refine AllReadyH.cons rfl (fun KK hK => ?_) AllReadyH.nil
  simp only [xa, xb, xc]
  go_simp
  refine (HPl.out _).mono ?_
  rintro e w5 ⟨rfl, he⟩
  rw [he]
  clear he w5
  refine hK.out _ _ ?hS12 (fun hHeld2 => ?rest12)
  case hS12 => exact hHeld
  clear hK KK
  (try clear hHeld)
  have hHeld := hHeld2
  clear hHeld2
  (try simp only [Act.put, xa, xb, xc, xd, xe, xf])
  refine tk 2 ?_
  refine tk 3 ?_
  refine wpAnyH_ready (rs := [4]) (by kernel_rfl) (by simp) ?_
  refine AllReadyH.cons rfl (fun KK hK => ?_) AllReadyH.nil
  simp only [xa, xb, xc]
  go_simp
  refine (imm_any_v 0 _).mono ?_
  rintro e w6 ⟨rfl, q6⟩
  rw [mk30.1, mk30.2]
  replace q6 := out_below q6
  refine hK.out _ _ ?hS15 (fun hHeld2 => ?rest15)
  case hS15 => exact ⟨q6.cell hHeld.1 (.inr (Nat.zero_le _)), q6.cell hHeld.2.1 (.inr (Nat.zero_le _)), hHeld.2.2.trans q6⟩
  clear q6
  clear hK KK
  (try clear hHeld)
  have hHeld := hHeld2
  clear hHeld2
  (try simp only [Act.put, xa, xb, xc, xd, xe, xf])
  refine tk 5 ?_
  refine tk 6 ?_
  refine tk 7 ?_
  refine wpAnyH_done (by kernel_rfl) ?_ _
  have HE := hid_mk hHeld.2.2
  clear hHeld
  go_wp2
  go_ret
  exact ⟨rfl, HE.out⟩
set_option maxRecDepth 100000 in
set_option maxHeartbeats 8000000 in
theorem right_none (hr : RawAt w lo hi s n cap r) (hH : w.cell? ⟨hb, 0, none⟩ = some (.pointer (some ⟨s 14, 0, none⟩))) (ba bk bz bx bt role : Int) {v m : Int} (h : role ≠ 0 ∧ role ≠ 1) (hk : v % 8 + 1 = 2) (hm : v / 8 = m) (hv : validB_v 2 m = true) (hM : r.M m = none) : Calls Tryz.prog 35 #[.pointer (some ⟨hb, 0, none⟩), .agg #[.int .i64 ba, .int .i64 bk, .int .i64 bz, .int .i64 bx, .int .i64 bt], .int .i64 role, .int .i64 v] w fun e w' => e = .returned (.bool (false)) ∧ Out 0 0 w w' := by
  have r0 : (role == 0) = false := by simp; omega
  have r1 : (role == 1) = false := by simp; omega
  have HF := hid_mk (heap_alloc_new w (.cells #[.int .i64 ba, .int .i64 bk, .int .i64 bz, .int .i64 bx, .int .i64 bt] 44))
  have HRd := hid_mk (fun V => read_yes hk hm hv V)
  have HW := hid_mk ((Out.refl 0 0 w).alloc (.cells #[.int .i64 ba, .int .i64 bk, .int .i64 bz, .int .i64 bx, .int .i64 bt] 44))
  have Hr := hid_mk hr
  have HM := hid_mk hM
  have HH := hid_mk hH
  clear h hk hm hv hr hM hH
  obtain ⟨gb, hgb⟩ : ∃ g, w.heap.size = g := ⟨_, rfl⟩
  obtain ⟨W, hW⟩ : ∃ W, w.alloc (.cells #[.int .i64 ba, .int .i64 bk, .int .i64 bz, .int .i64 bx, .int .i64 bt] 44) = W := ⟨_, rfl⟩
  rw [hW, hgb] at HF
  rw [hW] at HW
  go_enter Tryz.func35, Tryz.ntmps35
  go_wp2_with fail
  (try rw [hW])
  (try rw [hgb])
  clear hW
  refine (HRd.out _).mono ?_
  rintro e w1 ⟨rfl, o1⟩
  have fV := hid_mk (heap_alloc_new w1 (.cells #[.int .i64 2, .int .i64 m] 31))
  obtain ⟨gv, hgv⟩ : ∃ g, w1.heap.size = g := ⟨_, rfl⟩
  obtain ⟨V2, hV2⟩ : ∃ V, w1.alloc (.cells #[.int .i64 2, .int .i64 m] 31) = V := ⟨_, rfl⟩
  have O2 : Out 0 0 w V2 := by rw [← hV2]; exact (HW.out.trans o1).alloc _
  have oWV : Out 0 0 W V2 := by rw [← hV2]; exact o1.alloc _
  rw [hV2, hgv] at fV
  have HO2 := hid_mk O2
  have HOW := hid_mk oWV
  obtain ⟨u0, u1, u2, u3⟩ := val_facts fV.out
  clear O2 oWV o1
  go_wp2_with fail
  (try rw [hV2])
  (try rw [hgv])
  clear hV2
  have hH := HO2.out.cell HH.out (.inr (Nat.zero_le _))
  have hlow : hb < V2.heap.size ∧ gv < V2.heap.size := ⟨cell_lt hH, cell_lt u1⟩
  have HB : Hid (∀ V, Out 0 0 V2 V → Calls Tryz.prog 40 #[.pointer (some ⟨s 14, 0, none⟩), .int .i64 m] V fun e w' => e = .returned (.tuple #[.agg #[.int .i64 0, .int .i64 0, .int .i64 0, .int .i64 0, .int .i64 0], .bool false]) ∧ Out 0 0 V w') := fun V o => block_none (Hr.out.quiet (HO2.out.trans o)) HM.out
  refine wp_region_held_drew (S := fun w' => w'.cell? ⟨hb, 0, none⟩ = some (.pointer (some ⟨s 14, 0, none⟩)) ∧ w'.cell? ⟨gv, 1, none⟩ = some (.int .i64 m)) (by kernel_rfl) ?hS19 (fun hHeld => ?rest19)
  case hS19 => exact ⟨hH, u1⟩
  obtain ⟨Z7, hZ⟩ : ∃ Z, V2.drew = Z := ⟨_, rfl⟩
  have O : Out 0 0 V2 Z7 := by rw [← hZ]; exact (Out.refl 0 0 _).drew
  rw [hZ] at hHeld ⊢
  clear hZ
  refine tk 0 ?_
  refine tk 1 ?_
  refine tk 2 ?_
  refine tk 3 ?_
  refine tk 4 ?_
  refine tk 5 ?_
  refine wpAnyH_ready (rs := [6, 10]) (by kernel_rfl) (by simp) ?_
  refine AllReadyH.cons rfl (fun KK hK => ?_) ?_
  · simp only [xa, xb, xc]
    go_simp
    refine (HB.out _ O).mono ?_
    rintro e Z7C ⟨rfl, q1⟩
    replace O := O.trans q1
    refine hK.out _ _ ?hS26 (fun hHeld2 => ?rest26)
    case hS26 => exact ⟨q1.cell hHeld.1 (.inr (Nat.zero_le _)), q1.cell hHeld.2 (.inr (Nat.zero_le _))⟩
    clear q1
    clear hK KK
    (try clear hHeld)
    have hHeld := hHeld2
    clear hHeld2
    (try simp only [Act.put, xa, xb, xc, xd, xe, xf])
    refine tk 7 ?_
    refine tk 8 ?_
    refine tk 9 ?_
    refine wpAnyH_ready (rs := [10]) (by kernel_rfl) (by simp) ?_
    refine AllReadyH.cons rfl (fun KK hK => ?_) ?_
    · simp only [xa, xb, xc]
      go_simp
      obtain ⟨gA, hgf⟩ : ∃ g, Z7C.heap.size = g := ⟨_, rfl⟩
      obtain ⟨Z7CA, hY⟩ : ∃ V, Z7C.alloc (.cells #[.int .i64 0, .int .i64 0, .int .i64 0, .int .i64 0, .int .i64 0] 44) = V := ⟨_, rfl⟩
      have qA : Out 0 0 Z7C Z7CA := by rw [← hY]; exact (Out.refl 0 0 _).alloc _
      have fA : Z7CA.heap[gA]? = some (.cells #[.int .i64 0, .int .i64 0, .int .i64 0, .int .i64 0, .int .i64 0] 44 (0, 0)) := by rw [← hY, ← hgf]; exact heap_alloc_new _ _
      have hgA : V2.heap.size ≤ gA := by have := O.size; omega
      (try rw [hY])
      (try rw [hgf])
      clear hY hgf
      replace O := O.trans qA
      refine hK.out _ _ ?hS30 (fun hHeld2 => ?rest30)
      case hS30 => exact ⟨qA.cell hHeld.1 (.inr (Nat.zero_le _)), qA.cell hHeld.2 (.inr (Nat.zero_le _))⟩
      clear qA
      clear hK KK
      (try clear hHeld)
      have hHeld := hHeld2
      clear hHeld2
      (try simp only [Act.put, xa, xb, xc, xd, xe, xf])
      refine wpAnyH_ready (rs := [11]) (by kernel_rfl) (by simp) ?_
      refine AllReadyH.cons rfl (fun KK hK => ?_) ?_
      · simp only [xa, xb, xc]
        obtain ⟨y0, y1, y2, y3, y4, y5⟩ := blk5 fA
        go_simp
        clear y0 y1 y2 y3 y4 y5
        obtain ⟨Z7CAS, hY⟩ : ∃ V, (((((Z7CA.setCell ⟨gA, 0, none⟩ (.int .i64 0)).setCell ⟨gA, 1, none⟩ (.int .i64 0)).setCell ⟨gA, 2, none⟩ (.int .i64 0)).setCell ⟨gA, 3, none⟩ (.int .i64 0)).setCell ⟨gA, 4, none⟩ (.int .i64 0)) = V := ⟨_, rfl⟩
        have qS : Out gA (gA + 1) Z7CA Z7CAS := by rw [← hY]; exact (((((Out.refl _ _ _).setCell (p := ⟨gA, 0, none⟩) (.inl ⟨Nat.le_refl _, Nat.lt_succ_self _⟩) _).setCell (p := ⟨gA, 1, none⟩) (.inl ⟨Nat.le_refl _, Nat.lt_succ_self _⟩) _).setCell (p := ⟨gA, 2, none⟩) (.inl ⟨Nat.le_refl _, Nat.lt_succ_self _⟩) _).setCell (p := ⟨gA, 3, none⟩) (.inl ⟨Nat.le_refl _, Nat.lt_succ_self _⟩) _).setCell (p := ⟨gA, 4, none⟩) (.inl ⟨Nat.le_refl _, Nat.lt_succ_self _⟩) _
        replace O : Out 0 0 V2 Z7CAS := by rw [← hY]; exact ((((O.setCell (p := ⟨gA, 0, none⟩) (.inr hgA) _).setCell (p := ⟨gA, 1, none⟩) (.inr hgA) _).setCell (p := ⟨gA, 2, none⟩) (.inr hgA) _).setCell (p := ⟨gA, 3, none⟩) (.inr hgA) _).setCell (p := ⟨gA, 4, none⟩) (.inr hgA) _
        have fB : Z7CAS.heap[gA]? = some (.cells #[.int .i64 0, .int .i64 0, .int .i64 0, .int .i64 0, .int .i64 0] 44 (0, 0)) := by rw [← hY]; simp [World.setCell, Array.getElem?_modify, fA]
        (try rw [hY])
        clear hY fA
        refine hK.out _ _ ?hS31 (fun hHeld2 => ?rest31)
        case hS31 => exact ⟨qS.cell hHeld.1 (.inl (by have := hlow; omega)), qS.cell hHeld.2 (.inl (by have := hlow; omega))⟩
        clear qS
        clear hK KK
        (try clear hHeld)
        have hHeld := hHeld2
        clear hHeld2
        (try simp only [Act.put, xa, xb, xc, xd, xe, xf])
        refine tk 12 ?_
        refine wpAnyH_done (by kernel_rfl) ?_ _
        have HE := hid_mk (HO2.out.trans O)
        clear O fB hHeld
        go_wp2
        go_ret
        exact ⟨rfl, HE.out⟩
      · exact AllReadyH.nil
    · exact AllReadyH.nil
  · refine AllReadyH.cons rfl (fun KK hK => ?_) ?_
    · simp only [xa, xb, xc]
      go_simp
      obtain ⟨gA, hgf⟩ : ∃ g, Z7.heap.size = g := ⟨_, rfl⟩
      obtain ⟨Z7A, hY⟩ : ∃ V, Z7.alloc (.cells #[.int .i64 0, .int .i64 0, .int .i64 0, .int .i64 0, .int .i64 0] 44) = V := ⟨_, rfl⟩
      have qA : Out 0 0 Z7 Z7A := by rw [← hY]; exact (Out.refl 0 0 _).alloc _
      have fA : Z7A.heap[gA]? = some (.cells #[.int .i64 0, .int .i64 0, .int .i64 0, .int .i64 0, .int .i64 0] 44 (0, 0)) := by rw [← hY, ← hgf]; exact heap_alloc_new _ _
      have hgA : V2.heap.size ≤ gA := by have := O.size; omega
      (try rw [hY])
      (try rw [hgf])
      clear hY hgf
      replace O := O.trans qA
      refine hK.out _ _ ?hS33 (fun hHeld2 => ?rest33)
      case hS33 => exact ⟨qA.cell hHeld.1 (.inr (Nat.zero_le _)), qA.cell hHeld.2 (.inr (Nat.zero_le _))⟩
      clear qA
      clear hK KK
      (try clear hHeld)
      have hHeld := hHeld2
      clear hHeld2
      (try simp only [Act.put, xa, xb, xc, xd, xe, xf])
      refine wpAnyH_ready (rs := [6]) (by kernel_rfl) (by simp) ?_
      refine AllReadyH.cons rfl (fun KK hK => ?_) ?_
      · simp only [xa, xb, xc]
        go_simp
        refine (HB.out _ O).mono ?_
        rintro e Z7AC ⟨rfl, q1⟩
        replace O := O.trans q1
        replace fA := q1.heap fA (.inr (Nat.zero_le _))
        refine hK.out _ _ ?hS34 (fun hHeld2 => ?rest34)
        case hS34 => exact ⟨q1.cell hHeld.1 (.inr (Nat.zero_le _)), q1.cell hHeld.2 (.inr (Nat.zero_le _))⟩
        clear q1
        clear hK KK
        (try clear hHeld)
        have hHeld := hHeld2
        clear hHeld2
        (try simp only [Act.put, xa, xb, xc, xd, xe, xf])
        refine tk 7 ?_
        refine tk 8 ?_
        refine tk 9 ?_
        refine wpAnyH_ready (rs := [11]) (by kernel_rfl) (by simp) ?_
        refine AllReadyH.cons rfl (fun KK hK => ?_) ?_
        · simp only [xa, xb, xc]
          obtain ⟨y0, y1, y2, y3, y4, y5⟩ := blk5 fA
          go_simp
          clear y0 y1 y2 y3 y4 y5
          obtain ⟨Z7ACS, hY⟩ : ∃ V, (((((Z7AC.setCell ⟨gA, 0, none⟩ (.int .i64 0)).setCell ⟨gA, 1, none⟩ (.int .i64 0)).setCell ⟨gA, 2, none⟩ (.int .i64 0)).setCell ⟨gA, 3, none⟩ (.int .i64 0)).setCell ⟨gA, 4, none⟩ (.int .i64 0)) = V := ⟨_, rfl⟩
          have qS : Out gA (gA + 1) Z7AC Z7ACS := by rw [← hY]; exact (((((Out.refl _ _ _).setCell (p := ⟨gA, 0, none⟩) (.inl ⟨Nat.le_refl _, Nat.lt_succ_self _⟩) _).setCell (p := ⟨gA, 1, none⟩) (.inl ⟨Nat.le_refl _, Nat.lt_succ_self _⟩) _).setCell (p := ⟨gA, 2, none⟩) (.inl ⟨Nat.le_refl _, Nat.lt_succ_self _⟩) _).setCell (p := ⟨gA, 3, none⟩) (.inl ⟨Nat.le_refl _, Nat.lt_succ_self _⟩) _).setCell (p := ⟨gA, 4, none⟩) (.inl ⟨Nat.le_refl _, Nat.lt_succ_self _⟩) _
          replace O : Out 0 0 V2 Z7ACS := by rw [← hY]; exact ((((O.setCell (p := ⟨gA, 0, none⟩) (.inr hgA) _).setCell (p := ⟨gA, 1, none⟩) (.inr hgA) _).setCell (p := ⟨gA, 2, none⟩) (.inr hgA) _).setCell (p := ⟨gA, 3, none⟩) (.inr hgA) _).setCell (p := ⟨gA, 4, none⟩) (.inr hgA) _
          have fB : Z7ACS.heap[gA]? = some (.cells #[.int .i64 0, .int .i64 0, .int .i64 0, .int .i64 0, .int .i64 0] 44 (0, 0)) := by rw [← hY]; simp [World.setCell, Array.getElem?_modify, fA]
          (try rw [hY])
          clear hY fA
          refine hK.out _ _ ?hS38 (fun hHeld2 => ?rest38)
          case hS38 => exact ⟨qS.cell hHeld.1 (.inl (by have := hlow; omega)), qS.cell hHeld.2 (.inl (by have := hlow; omega))⟩
          clear qS
          clear hK KK
          (try clear hHeld)
          have hHeld := hHeld2
          clear hHeld2
          (try simp only [Act.put, xa, xb, xc, xd, xe, xf])
          refine tk 12 ?_
          refine wpAnyH_done (by kernel_rfl) ?_ _
          have HE := hid_mk (HO2.out.trans O)
          clear O fB hHeld
          go_wp2
          go_ret
          exact ⟨rfl, HE.out⟩
        · exact AllReadyH.nil
      · exact AllReadyH.nil
    · exact AllReadyH.nil
set_option maxRecDepth 100000 in
set_option maxHeartbeats 8000000 in
theorem right_some (hr : RawAt w lo hi s n cap r) (hH : w.cell? ⟨hb, 0, none⟩ = some (.pointer (some ⟨s 14, 0, none⟩))) (ba bk bz bx bt role : Int) {v m : Int} (h : role ≠ 0 ∧ role ≠ 1) (hk : v % 8 + 1 = 2) (hm : v / 8 = m) (hv : validB_v 2 m = true) {t1 t2 t3 t4 : Int} (hM : r.M m = some (t1, t2, t3, t4)) : Calls Tryz.prog 35 #[.pointer (some ⟨hb, 0, none⟩), .agg #[.int .i64 ba, .int .i64 bk, .int .i64 bz, .int .i64 bx, .int .i64 bt], .int .i64 role, .int .i64 v] w fun e w' => e = .returned (.bool (leadsB ba (bk, bz, bx, bt) role m (t1, t2, t3, t4))) ∧ Out 0 0 w w' := by
  have r0 : (role == 0) = false := by simp; omega
  have r1 : (role == 1) = false := by simp; omega
  have HF := hid_mk (heap_alloc_new w (.cells #[.int .i64 ba, .int .i64 bk, .int .i64 bz, .int .i64 bx, .int .i64 bt] 44))
  have HRd := hid_mk (fun V => read_yes hk hm hv V)
  have HW := hid_mk ((Out.refl 0 0 w).alloc (.cells #[.int .i64 ba, .int .i64 bk, .int .i64 bz, .int .i64 bx, .int .i64 bt] 44))
  have Hr := hid_mk hr
  have HM := hid_mk hM
  have HH := hid_mk hH
  clear h hk hm hv hr hM hH
  obtain ⟨gb, hgb⟩ : ∃ g, w.heap.size = g := ⟨_, rfl⟩
  obtain ⟨W, hW⟩ : ∃ W, w.alloc (.cells #[.int .i64 ba, .int .i64 bk, .int .i64 bz, .int .i64 bx, .int .i64 bt] 44) = W := ⟨_, rfl⟩
  rw [hW, hgb] at HF
  rw [hW] at HW
  go_enter Tryz.func35, Tryz.ntmps35
  go_wp2_with fail
  (try rw [hW])
  (try rw [hgb])
  clear hW
  refine (HRd.out _).mono ?_
  rintro e w1 ⟨rfl, o1⟩
  have fV := hid_mk (heap_alloc_new w1 (.cells #[.int .i64 2, .int .i64 m] 31))
  obtain ⟨gv, hgv⟩ : ∃ g, w1.heap.size = g := ⟨_, rfl⟩
  obtain ⟨V2, hV2⟩ : ∃ V, w1.alloc (.cells #[.int .i64 2, .int .i64 m] 31) = V := ⟨_, rfl⟩
  have O2 : Out 0 0 w V2 := by rw [← hV2]; exact (HW.out.trans o1).alloc _
  have oWV : Out 0 0 W V2 := by rw [← hV2]; exact o1.alloc _
  rw [hV2, hgv] at fV
  have HO2 := hid_mk O2
  have HOW := hid_mk oWV
  obtain ⟨u0, u1, u2, u3⟩ := val_facts fV.out
  clear O2 oWV o1
  go_wp2_with fail
  (try rw [hV2])
  (try rw [hgv])
  clear hV2
  have hH := HO2.out.cell HH.out (.inr (Nat.zero_le _))
  have hlow : hb < V2.heap.size ∧ gv < V2.heap.size := ⟨cell_lt hH, cell_lt u1⟩
  have HB : Hid (∀ V, Out 0 0 V2 V → Calls Tryz.prog 40 #[.pointer (some ⟨s 14, 0, none⟩), .int .i64 m] V fun e w' => e = .returned (.tuple #[.agg #[.int .i64 m, .int .i64 t1, .int .i64 t2, .int .i64 t3, .int .i64 t4], .bool true]) ∧ Out 0 0 V w') := fun V o => block_some (Hr.out.quiet (HO2.out.trans o)) HM.out
  refine wp_region_held_drew (S := fun w' => w'.cell? ⟨hb, 0, none⟩ = some (.pointer (some ⟨s 14, 0, none⟩)) ∧ w'.cell? ⟨gv, 1, none⟩ = some (.int .i64 m)) (by kernel_rfl) ?hS40 (fun hHeld => ?rest40)
  case hS40 => exact ⟨hH, u1⟩
  obtain ⟨Z7, hZ⟩ : ∃ Z, V2.drew = Z := ⟨_, rfl⟩
  have O : Out 0 0 V2 Z7 := by rw [← hZ]; exact (Out.refl 0 0 _).drew
  rw [hZ] at hHeld ⊢
  clear hZ
  refine tk 0 ?_
  refine tk 1 ?_
  refine tk 2 ?_
  refine tk 3 ?_
  refine tk 4 ?_
  refine tk 5 ?_
  refine wpAnyH_ready (rs := [6, 10]) (by kernel_rfl) (by simp) ?_
  refine AllReadyH.cons rfl (fun KK hK => ?_) ?_
  · simp only [xa, xb, xc]
    go_simp
    refine (HB.out _ O).mono ?_
    rintro e Z7C ⟨rfl, q1⟩
    replace O := O.trans q1
    refine hK.out _ _ ?hS47 (fun hHeld2 => ?rest47)
    case hS47 => exact ⟨q1.cell hHeld.1 (.inr (Nat.zero_le _)), q1.cell hHeld.2 (.inr (Nat.zero_le _))⟩
    clear q1
    clear hK KK
    (try clear hHeld)
    have hHeld := hHeld2
    clear hHeld2
    (try simp only [Act.put, xa, xb, xc, xd, xe, xf])
    refine tk 7 ?_
    refine tk 8 ?_
    refine tk 9 ?_
    refine wpAnyH_ready (rs := [10]) (by kernel_rfl) (by simp) ?_
    refine AllReadyH.cons rfl (fun KK hK => ?_) ?_
    · simp only [xa, xb, xc]
      go_simp
      obtain ⟨gA, hgf⟩ : ∃ g, Z7C.heap.size = g := ⟨_, rfl⟩
      obtain ⟨Z7CA, hY⟩ : ∃ V, Z7C.alloc (.cells #[.int .i64 0, .int .i64 0, .int .i64 0, .int .i64 0, .int .i64 0] 44) = V := ⟨_, rfl⟩
      have qA : Out 0 0 Z7C Z7CA := by rw [← hY]; exact (Out.refl 0 0 _).alloc _
      have fA : Z7CA.heap[gA]? = some (.cells #[.int .i64 0, .int .i64 0, .int .i64 0, .int .i64 0, .int .i64 0] 44 (0, 0)) := by rw [← hY, ← hgf]; exact heap_alloc_new _ _
      have hgA : V2.heap.size ≤ gA := by have := O.size; omega
      (try rw [hY])
      (try rw [hgf])
      clear hY hgf
      replace O := O.trans qA
      refine hK.out _ _ ?hS51 (fun hHeld2 => ?rest51)
      case hS51 => exact ⟨qA.cell hHeld.1 (.inr (Nat.zero_le _)), qA.cell hHeld.2 (.inr (Nat.zero_le _))⟩
      clear qA
      clear hK KK
      (try clear hHeld)
      have hHeld := hHeld2
      clear hHeld2
      (try simp only [Act.put, xa, xb, xc, xd, xe, xf])
      refine wpAnyH_ready (rs := [11]) (by kernel_rfl) (by simp) ?_
      refine AllReadyH.cons rfl (fun KK hK => ?_) ?_
      · simp only [xa, xb, xc]
        obtain ⟨y0, y1, y2, y3, y4, y5⟩ := blk5 fA
        go_simp
        clear y0 y1 y2 y3 y4 y5
        obtain ⟨Z7CAS, hY⟩ : ∃ V, (((((Z7CA.setCell ⟨gA, 0, none⟩ (.int .i64 m)).setCell ⟨gA, 1, none⟩ (.int .i64 t1)).setCell ⟨gA, 2, none⟩ (.int .i64 t2)).setCell ⟨gA, 3, none⟩ (.int .i64 t3)).setCell ⟨gA, 4, none⟩ (.int .i64 t4)) = V := ⟨_, rfl⟩
        have qS : Out gA (gA + 1) Z7CA Z7CAS := by rw [← hY]; exact (((((Out.refl _ _ _).setCell (p := ⟨gA, 0, none⟩) (.inl ⟨Nat.le_refl _, Nat.lt_succ_self _⟩) _).setCell (p := ⟨gA, 1, none⟩) (.inl ⟨Nat.le_refl _, Nat.lt_succ_self _⟩) _).setCell (p := ⟨gA, 2, none⟩) (.inl ⟨Nat.le_refl _, Nat.lt_succ_self _⟩) _).setCell (p := ⟨gA, 3, none⟩) (.inl ⟨Nat.le_refl _, Nat.lt_succ_self _⟩) _).setCell (p := ⟨gA, 4, none⟩) (.inl ⟨Nat.le_refl _, Nat.lt_succ_self _⟩) _
        replace O : Out 0 0 V2 Z7CAS := by rw [← hY]; exact ((((O.setCell (p := ⟨gA, 0, none⟩) (.inr hgA) _).setCell (p := ⟨gA, 1, none⟩) (.inr hgA) _).setCell (p := ⟨gA, 2, none⟩) (.inr hgA) _).setCell (p := ⟨gA, 3, none⟩) (.inr hgA) _).setCell (p := ⟨gA, 4, none⟩) (.inr hgA) _
        have fB : Z7CAS.heap[gA]? = some (.cells #[.int .i64 m, .int .i64 t1, .int .i64 t2, .int .i64 t3, .int .i64 t4] 44 (0, 0)) := by rw [← hY]; simp [World.setCell, Array.getElem?_modify, fA]
        (try rw [hY])
        clear hY fA
        refine hK.out _ _ ?hS52 (fun hHeld2 => ?rest52)
        case hS52 => exact ⟨qS.cell hHeld.1 (.inl (by have := hlow; omega)), qS.cell hHeld.2 (.inl (by have := hlow; omega))⟩
        clear qS
        clear hK KK
        (try clear hHeld)
        have hHeld := hHeld2
        clear hHeld2
        (try simp only [Act.put, xa, xb, xc, xd, xe, xf])
        refine tk 12 ?_
        refine wpAnyH_done (by kernel_rfl) ?_ _
        have HE := hid_mk (HO2.out.trans O)
        obtain ⟨y0, y1, y2, y3, y4, y5⟩ := blk5 fB
        obtain ⟨x0, x1, x2, x3, x4, x5⟩ := blk5 ((HOW.out.trans O).heap HF.out (.inr (Nat.zero_le _)))
        clear O fB hHeld
        go_wp2_with fail
        refine (leads_any _ _ _ _ _ _ _ _ _ _ _ _).mono ?_
        rintro e V9 ⟨rfl, q9⟩
        have HE9 := hid_mk (HE.out.trans q9)
        clear HE q9 y0 y1 y2 y3 y4 y5 x0 x1 x2 x3 x4 x5
        go_wp2
        go_ret
        exact ⟨rfl, HE9.out⟩
      · exact AllReadyH.nil
    · exact AllReadyH.nil
  · refine AllReadyH.cons rfl (fun KK hK => ?_) ?_
    · simp only [xa, xb, xc]
      go_simp
      obtain ⟨gA, hgf⟩ : ∃ g, Z7.heap.size = g := ⟨_, rfl⟩
      obtain ⟨Z7A, hY⟩ : ∃ V, Z7.alloc (.cells #[.int .i64 0, .int .i64 0, .int .i64 0, .int .i64 0, .int .i64 0] 44) = V := ⟨_, rfl⟩
      have qA : Out 0 0 Z7 Z7A := by rw [← hY]; exact (Out.refl 0 0 _).alloc _
      have fA : Z7A.heap[gA]? = some (.cells #[.int .i64 0, .int .i64 0, .int .i64 0, .int .i64 0, .int .i64 0] 44 (0, 0)) := by rw [← hY, ← hgf]; exact heap_alloc_new _ _
      have hgA : V2.heap.size ≤ gA := by have := O.size; omega
      (try rw [hY])
      (try rw [hgf])
      clear hY hgf
      replace O := O.trans qA
      refine hK.out _ _ ?hS54 (fun hHeld2 => ?rest54)
      case hS54 => exact ⟨qA.cell hHeld.1 (.inr (Nat.zero_le _)), qA.cell hHeld.2 (.inr (Nat.zero_le _))⟩
      clear qA
      clear hK KK
      (try clear hHeld)
      have hHeld := hHeld2
      clear hHeld2
      (try simp only [Act.put, xa, xb, xc, xd, xe, xf])
      refine wpAnyH_ready (rs := [6]) (by kernel_rfl) (by simp) ?_
      refine AllReadyH.cons rfl (fun KK hK => ?_) ?_
      · simp only [xa, xb, xc]
        go_simp
        refine (HB.out _ O).mono ?_
        rintro e Z7AC ⟨rfl, q1⟩
        replace O := O.trans q1
        replace fA := q1.heap fA (.inr (Nat.zero_le _))
        refine hK.out _ _ ?hS55 (fun hHeld2 => ?rest55)
        case hS55 => exact ⟨q1.cell hHeld.1 (.inr (Nat.zero_le _)), q1.cell hHeld.2 (.inr (Nat.zero_le _))⟩
        clear q1
        clear hK KK
        (try clear hHeld)
        have hHeld := hHeld2
        clear hHeld2
        (try simp only [Act.put, xa, xb, xc, xd, xe, xf])
        refine tk 7 ?_
        refine tk 8 ?_
        refine tk 9 ?_
        refine wpAnyH_ready (rs := [11]) (by kernel_rfl) (by simp) ?_
        refine AllReadyH.cons rfl (fun KK hK => ?_) ?_
        · simp only [xa, xb, xc]
          obtain ⟨y0, y1, y2, y3, y4, y5⟩ := blk5 fA
          go_simp
          clear y0 y1 y2 y3 y4 y5
          obtain ⟨Z7ACS, hY⟩ : ∃ V, (((((Z7AC.setCell ⟨gA, 0, none⟩ (.int .i64 m)).setCell ⟨gA, 1, none⟩ (.int .i64 t1)).setCell ⟨gA, 2, none⟩ (.int .i64 t2)).setCell ⟨gA, 3, none⟩ (.int .i64 t3)).setCell ⟨gA, 4, none⟩ (.int .i64 t4)) = V := ⟨_, rfl⟩
          have qS : Out gA (gA + 1) Z7AC Z7ACS := by rw [← hY]; exact (((((Out.refl _ _ _).setCell (p := ⟨gA, 0, none⟩) (.inl ⟨Nat.le_refl _, Nat.lt_succ_self _⟩) _).setCell (p := ⟨gA, 1, none⟩) (.inl ⟨Nat.le_refl _, Nat.lt_succ_self _⟩) _).setCell (p := ⟨gA, 2, none⟩) (.inl ⟨Nat.le_refl _, Nat.lt_succ_self _⟩) _).setCell (p := ⟨gA, 3, none⟩) (.inl ⟨Nat.le_refl _, Nat.lt_succ_self _⟩) _).setCell (p := ⟨gA, 4, none⟩) (.inl ⟨Nat.le_refl _, Nat.lt_succ_self _⟩) _
          replace O : Out 0 0 V2 Z7ACS := by rw [← hY]; exact ((((O.setCell (p := ⟨gA, 0, none⟩) (.inr hgA) _).setCell (p := ⟨gA, 1, none⟩) (.inr hgA) _).setCell (p := ⟨gA, 2, none⟩) (.inr hgA) _).setCell (p := ⟨gA, 3, none⟩) (.inr hgA) _).setCell (p := ⟨gA, 4, none⟩) (.inr hgA) _
          have fB : Z7ACS.heap[gA]? = some (.cells #[.int .i64 m, .int .i64 t1, .int .i64 t2, .int .i64 t3, .int .i64 t4] 44 (0, 0)) := by rw [← hY]; simp [World.setCell, Array.getElem?_modify, fA]
          (try rw [hY])
          clear hY fA
          refine hK.out _ _ ?hS59 (fun hHeld2 => ?rest59)
          case hS59 => exact ⟨qS.cell hHeld.1 (.inl (by have := hlow; omega)), qS.cell hHeld.2 (.inl (by have := hlow; omega))⟩
          clear qS
          clear hK KK
          (try clear hHeld)
          have hHeld := hHeld2
          clear hHeld2
          (try simp only [Act.put, xa, xb, xc, xd, xe, xf])
          refine tk 12 ?_
          refine wpAnyH_done (by kernel_rfl) ?_ _
          have HE := hid_mk (HO2.out.trans O)
          obtain ⟨y0, y1, y2, y3, y4, y5⟩ := blk5 fB
          obtain ⟨x0, x1, x2, x3, x4, x5⟩ := blk5 ((HOW.out.trans O).heap HF.out (.inr (Nat.zero_le _)))
          clear O fB hHeld
          go_wp2_with fail
          refine (leads_any _ _ _ _ _ _ _ _ _ _ _ _).mono ?_
          rintro e V9 ⟨rfl, q9⟩
          have HE9 := hid_mk (HE.out.trans q9)
          clear HE q9 y0 y1 y2 y3 y4 y5 x0 x1 x2 x3 x4 x5
          go_wp2
          go_ret
          exact ⟨rfl, HE9.out⟩
        · exact AllReadyH.nil
      · exact AllReadyH.nil
    · exact AllReadyH.nil
theorem right_any (hr : RawAt w lo hi s n cap r) (hH : w.cell? ⟨hb, 0, none⟩ = some (.pointer (some ⟨s 14, 0, none⟩))) (ba bk bz bx bt role v : Int) : Calls Tryz.prog 35 #[.pointer (some ⟨hb, 0, none⟩), .agg #[.int .i64 ba, .int .i64 bk, .int .i64 bz, .int .i64 bx, .int .i64 bt], .int .i64 role, .int .i64 v] w fun e w' => e = .returned (.bool (rgB r ba (bk, bz, bx, bt) role v)) ∧ Out 0 0 w w' := by
  unfold rgB
  by_cases h : role = 0 ∨ role = 1
  · rw [if_pos h]; exact right_raw hb ba bk bz bx bt role v h w
  · rw [if_neg h]
    have h' : role ≠ 0 ∧ role ≠ 1 := by omega
    cases hv : validB_v (v % 8 + 1) (v / 8)
    · rw [if_neg (by simp)]; exact right_wrong hb ba bk bz bx bt role h' rfl rfl hv
    · rw [if_pos rfl]
      by_cases h2 : v % 8 + 1 = 2
      · rw [if_pos h2]
        rw [h2] at hv
        cases hM : r.M (v / 8) with
        | none => exact right_none hr hH ba bk bz bx bt role h' h2 rfl hv hM
        | some t =>
          obtain ⟨t1, t2, t3, t4⟩ := t
          exact right_some hr hH ba bk bz bx bt role h' h2 rfl hv hM
      · rw [if_neg h2]
        cases hp : plainB role
        · exact right_plain_false hb ba bk bz bx bt role h' rfl rfl hv h2 hp
        · exact right_plain_true hb ba bk bz bx bt role h' rfl rfl hv h2 hp
end
end Go.Proofs.YtcpignkjlnjjmaaGreatDoor
