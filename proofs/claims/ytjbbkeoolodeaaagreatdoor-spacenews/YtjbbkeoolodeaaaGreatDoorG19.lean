import Derived.Test.YtjbbkeoolodeaaaGreatDoorG18
import Derived.Laws.FloatArith
namespace Go.Proofs.YtjbbkeoolodeaaaGreatDoor
open Go.RowKit
attribute [local go_sem] Oper.semAt_some
set_option linter.unusedVariables false
set_option linter.unusedSimpArgs false

/-- the words of the rooms below p -/
def usedTo (r : Raw) : Nat → Nat
  | 0 => 0
  | p + 1 => if r.P p then (match r.M (p : Int) with | some b => usedTo r p + roomN b.2.1 | none => usedTo r p) else usedTo r p
theorem used_skip {r : Raw} {p : Nat} : ∀ {d : Nat}, (∀ j, p ≤ j → j < p + d → r.P j = false) → usedTo r (p + d) = usedTo r p
  | 0, _ => rfl
  | d + 1, h => by
    refine Eq.trans ?_ (used_skip (r := r) (p := p) (d := d) (fun j a b => h j a (by omega)))
    show usedTo r ((p + d) + 1) = _
    conv => lhs; unfold usedTo
    rw [h _ (by omega) (by omega)]; rfl
theorem used_to {r : Raw} {p k : Nat} (hp : p ≤ k) (h : ∀ j, p ≤ j → j < k → r.P j = false) : usedTo r k = usedTo r p := by
  obtain ⟨d, rfl⟩ : ∃ d, k = p + d := ⟨k - p, by omega⟩
  exact used_skip h
theorem used_step {r : Raw} {k : Nat} {b : Blk} (hP : r.P k = true) (hb : r.M (k : Int) = some b) : usedTo r (k + 1) = usedTo r k + roomN b.2.1 := by
  conv => lhs; unfold usedTo
  rw [hP, hb]; rfl
/-- u words of 64 n -/
def useQ (n u : Nat) : Option Nat := floatBits .quo .f64 (floatOfInt .f64 (u : Int)) (floatOfInt .f64 (64 * (n : Int)))
section
variable {w : World} {lo hi n cap : Nat} {s : Nat → Nat} {r : Raw}
set_option maxRecDepth 100000 in
set_option maxHeartbeats 4000000 in
theorem use_any (h : RawAt w lo hi s n cap r) (hT : Told r) (hR : Rooms n r) {v : Nat} (hv : useQ n (usedTo r (64 * n)) = some v) :
    Calls Tryz.prog 34 #[.pointer (some ⟨s 14, 0, none⟩)] w fun e w' => e = .returned (.float .f64 v) ∧ Out 0 0 w w' := by
  have HR0 := hid_mk h
  have HTo := hid_mk hT
  have HRo := hid_mk hR
  have HT : Hid (hi ≤ w.heap.size ∧ 4 ≤ w.heap.size ∧ 4 ≤ lo ∧ n ≤ 4096 ∧ 1 ≤ n) := ⟨h.top, h.tab.lt, h.glob, h.n2, h.n1⟩
  have HL := hid_mk (fun w => spAll_any (s 14) w)
  have HW := hid_mk (fun W (hr : RawAt W lo hi s n cap r) => spWords_any hr)
  have HW0 := hid_mk (spWords_any h)
  have n0 : (0 : Int) < ((64 * n : Nat) : Int) := by have := h.n1; omega
  have n1 : (1 : Int) ≤ (n : Int) := by have := h.n1; omega
  have HV := hid_mk hv
  clear h hT hR hv
  refine (callsIn_wide (n := 0)).1 ?_
  refine callsIn_of_wp_marks Tryz.func34 rfl trivial ?_ rfl
  simp only [Tryz.ntmps34, List.size_toArray, List.length_cons, List.length_nil, Nat.reduceAdd, Nat.reduceSub, Array.replicate_succ, Array.replicate_zero, List.push_toArray, List.append_toArray, List.nil_append, List.cons_append]
  gi_wp2_with (first
    | (refine ⟨trivial, rfl, ?_⟩; gi_at_call 15; refine (callsIn_wide.2 HW0.out).mono ?_; rintro e w1 ⟨rfl, he⟩; rw [he]; clear he w1)
    | (refine ⟨trivial, rfl, ?_⟩; gi_at_call 67; refine (callsIn_wide.2 (HL.out _)).mono ?_; rintro e w1 ⟨rfl, rfl⟩))
  obtain ⟨W1, hW1⟩ : ∃ W1, (w.alloc (.cells #[.int .i64 0] 3)).alloc (.cells #[.pointer (some ⟨s 14, 0, none⟩)] 34) = W1 := ⟨_, rfl⟩
  obtain ⟨G, hG⟩ : ∃ G, w.heap.size = G := ⟨_, rfl⟩
  have hs1 : W1.heap.size = G + 2 := by rw [← hW1, ← hG]; simp
  have ho1 : Out 0 0 w W1 := by rw [← hW1]; exact ((Out.refl 0 0 w).alloc _).alloc _
  have hx1 : Box W1 G 3 (.int .i64 0) := by rw [← hW1, ← hG]; exact two_first
  have hz1 : Box W1 (G + 1) 34 (.pointer (some ⟨s 14, 0, none⟩)) := by rw [← hW1, ← hG]; exact heap_alloc2_new _ _ _
  rw [hW1, hG]
  rw [hG] at HT
  have HGw := hid_mk hG
  have HO1 := hid_mk ho1
  have HX1 := hid_mk hx1
  have HZ1 := hid_mk hz1
  clear hW1 ho1 hx1 hz1 hG
  refine overAll (lo := lo) (hi := hi) (n := n) (cap := cap) (g := G + 1) (s := s) rfl rfl
    (fun p W => p ≤ 64 * n ∧ RawAt W lo hi s n cap r ∧ (∃ f, At n r p f ∧ usedTo r p ≤ f) ∧ Box W G 3 (.int .i64 ((usedTo r p : Nat) : Int)) ∧ Box W (G + 1) 34 (.pointer (some ⟨s 14, 0, none⟩)) ∧ Out 0 0 w W)
    (fun W => RawAt W lo hi s n cap r ∧ usedTo r (64 * n) ≤ 64 * n ∧ Box W G 3 (.int .i64 ((usedTo r (64 * n) : Nat) : Int)) ∧ Out 0 0 w W)
    (fun c W => False) ?hm1 ?hq1 ?hqk1 ?hqx1 ?hy1 ?he1 ?hz1 ?hdone1 ?hstop1
  case hm1 =>
    rintro p W ⟨hp, a1, a2, a3, a4, a5⟩
    exact ⟨hp, _, a1, HTo.out, a4⟩
  case hq1 =>
    rintro p W W' x y ⟨hp, a1, a2, a3, a4, a5⟩ o hx
    have hT := HT.out
    have hgw := HGw.out
    exact ⟨hp, a1.kept o (by omega) (by omega), a2, a3.kept o (by omega), a4.kept o (by omega), out_far a5 o (by omega)⟩
  case hqk1 =>
    rintro W W' x y ⟨a1, a2, a3, a4⟩ o hx
    have hT := HT.out
    have hgw := HGw.out
    exact ⟨a1.kept o (by omega) (by omega), a2, a3.kept o (by omega), out_far a4 o (by omega)⟩
  case hqx1 => exact fun c W W' x y h _ _ => h
  case hstop1 => exact fun c W h _ => h.elim
  case hz1 => exact ⟨Nat.zero_le _, HR0.out.quiet HO1.out, ⟨0, ⟨Nat.zero_le _, fun a b h => absurd h (by omega), fun a _ _ => Nat.zero_le _⟩, Nat.le_refl _⟩, HX1.out, HZ1.out, HO1.out⟩
  case he1 =>
    rintro p W rr ⟨hp, a1, ⟨f, hA, hu⟩, a3, a4, a5⟩ hr hk
    obtain ⟨eP, eM⟩ := raw_one a1 hr
    rw [← eP] at hk
    rcases nxr_cases r.P (64 * n) p with ⟨_, hz⟩ | ⟨i, hi', _⟩
    · have e := used_to hp hz
      exact ⟨a1, by rw [e]; have := hA.le; omega, by rw [e]; exact a3, a5⟩
    · have : (-1 : Int) = i := hk.symm.trans hi'
      omega
  case hy1 =>
    rintro p W rr k b ⟨hp, a1, ⟨f, hA, hu⟩, a3, a4, a5⟩ hr hk hb hsz
    obtain ⟨eP, eM⟩ := raw_one a1 hr
    rw [← eP] at hk
    rw [← eM] at hb
    obtain ⟨hpk, hkn, hPk, hz⟩ : p ≤ k ∧ k < 64 * n ∧ r.P k = true ∧ ∀ j, p ≤ j → j < k → r.P j = false := by
      rcases nxr_cases r.P (64 * n) p with ⟨e1, _⟩ | ⟨i, e1, e2, e3, e4, e5⟩
      · have : (-1 : Int) = k := e1.symm.trans hk
        omega
      · have : i = k := by have : (i : Int) = k := e1.symm.trans hk; omega
        subst this
        exact ⟨e3 hp, e2, e4, e5⟩
    rw [hs1] at hsz ⊢
    have hRo := HRo.out k b hPk hb
    have hfk := hA.above k hpk hPk
    have hA' := hA.step HRo.out hpk hz hPk hb
    have hus := used_step hPk hb
    rw [used_to hpk hz] at hus
    obtain ⟨b1, b2, b3, b4⟩ := b
    obtain ⟨u, hu1⟩ : ∃ u, usedTo r p = u := ⟨_, rfl⟩
    rw [hu1] at a3 hu hus
    have A := hid_mk (And.intro a1 (And.intro a3 (And.intro a4 (And.intro a5 (And.intro hA' hus)))))
    have HK := hid_mk (And.intro hpk (And.intro hkn (And.intro hfk (And.intro hsz hu))))
    have HRk := hid_mk hRo
    clear a1 a3 a4 a5 hA hr hk hb eP eM hz hPk hRo hA' hp hpk hkn hfk hsz hus hu hu1
    unfold blkV
    dsimp only at A HRk ⊢
    obtain ⟨WA, hWA⟩ : ∃ WA, W.alloc (bo (k : Int) b1 b2 b3 b4) = WA := ⟨_, rfl⟩
    have HBA : Hid (WA.heap[W.heap.size]? = some (bo (k : Int) b1 b2 b3 b4)) := by rw [← hWA]; exact heap_alloc_new _ _
    have HOA : Hid (Out 0 0 W WA) := by rw [← hWA]; exact (Out.refl 0 0 W).alloc _
    obtain ⟨H, hH⟩ : ∃ H, W.heap.size = H := ⟨_, rfl⟩
    rw [hH] at HK HBA
    unfold bo at hWA HBA
    gi_wp2
    (try rw [hWA])
    refine ⟨HOA.out.any _ _, ?_⟩
    (try rw [hH])
    clear hWA hH
    intro W2 o2
    have hT := HT.out
    have hkk := HK.out
    have hgw := HGw.out
    have HR2 := hid_mk ((A.out.1.quiet HOA.out).kept o2 (.inl (by omega)) (.inl (by omega)))
    have HX2 := hid_mk ((A.out.2.1.kept HOA.out (.inr (Nat.zero_le _))).kept o2 (.inl (by omega)))
    have HZ2 := hid_mk ((A.out.2.2.1.kept HOA.out (.inr (Nat.zero_le _))).kept o2 (.inl (by omega)))
    have HB2 := hid_mk (o2.heap HBA.out (.inr (by omega)))
    have HO2 := hid_mk (out_far (A.out.2.2.2.1.trans HOA.out) o2 (.inl (by omega)))
    have c0 := HX2.out.cell
    obtain ⟨_, _, q2, _, _⟩ := bo_facts HB2.out
    have HRoom := hid_mk (fun w' => room_any b2 HRk.out.1 HRk.out.2.1 w')
    have HWR : Hid (IntKind.i64.wrap ((u : Int) + ((roomN b2 : Nat) : Int)) = ((u + roomN b2 : Nat) : Int)) := by show _ = _; simp [IntKind.wrap, IntKind.signed, IntKind.bits]; have := HRk.out; omega
    clear o2 hT hkk hgw
    gi_wp2_with fail
    refine region_roundN (S := fun w' => w'.cell? ⟨H, 2, none⟩ = some (.int .i64 b2)) (by kernel_rfl) (by kernel_rfl) ?hS1 (fun hHeld => ?rest1)
    case hS1 => exact q2
    refine wpAnyH_take (i := 1) (v := ?v2) rfl (by kernel_rfl) (by kernel_rfl) (by kernel_rfl) (fun _ _ _ h => h) (Or.inl ⟨by rfl, ?hy2⟩) (by assumption) ?rest2
    case hy2 => (intro w hSw; (try dsimp only at hSw); simp only [List.getElem_toArray, List.getElem_cons_zero, List.getElem_cons_succ]; go_simp; (try with_reducible rfl))
    (try simp only [Act.put, List.getElem_toArray, List.getElem_cons_zero, List.getElem_cons_succ, List.setIfInBounds_toArray, List.set_cons_zero, List.set_cons_succ])
    refine wpAnyH_take (i := 2) (v := ?v3) rfl (by kernel_rfl) (by kernel_rfl) (by kernel_rfl) (fun _ _ _ h => h) (Or.inl ⟨by rfl, ?hy3⟩) (by assumption) ?rest3
    case hy3 => (intro w hSw; (try dsimp only at hSw); simp only [List.getElem_toArray, List.getElem_cons_zero, List.getElem_cons_succ]; go_simp; (try with_reducible rfl))
    (try simp only [Act.put, List.getElem_toArray, List.getElem_cons_zero, List.getElem_cons_succ, List.setIfInBounds_toArray, List.set_cons_zero, List.set_cons_succ])
    refine wpAnyH_ready (rs := [0, 3]) (by kernel_rfl) (by simp) ?_
    refine AllReadyH.cons rfl (fun KK hK => ?_) ?_
    · simp only [List.getElem_toArray, List.getElem_cons_zero, List.getElem_cons_succ]
      go_simp
      refine hK.out _ _ ?hS4 (fun hHeld2 => ?rest4)
      case hS4 => exact hHeld
      clear hK KK
      (try clear hHeld)
      have hHeld := hHeld2
      clear hHeld2
      (try simp only [Act.put, List.getElem_toArray, List.getElem_cons_zero, List.getElem_cons_succ, List.setIfInBounds_toArray, List.set_cons_zero, List.set_cons_succ])
      refine wpAnyH_ready (rs := [3]) (by kernel_rfl) (by simp) ?_
      refine AllReadyH.cons rfl (fun KK hK => ?_) ?_
      · simp only [List.getElem_toArray, List.getElem_cons_zero, List.getElem_cons_succ]
        go_simp
        refine (HRoom.out _).mono ?_
        rintro e w5 ⟨rfl, hoo⟩
        have hx5 := HX2.out.kept (((Out.refl 0 0 _).drew).trans hoo) (.inr (Nat.zero_le _))
        have e0 := hx5.cell
        have e1 := hx5.frozen
        have HX5 := hid_mk hx5
        have HOO := hid_mk hoo
        clear hx5
        refine hK.out _ _ ?hS5 (fun hHeld2 => ?rest5)
        case hS5 => exact hoo.cell hHeld (.inr (Nat.zero_le _))
        clear hK KK
        (try clear hHeld)
        have hHeld := hHeld2
        clear hHeld2
        (try simp only [Act.put, List.getElem_toArray, List.getElem_cons_zero, List.getElem_cons_succ, List.setIfInBounds_toArray, List.set_cons_zero, List.set_cons_succ])
        refine wpAnyH_take (i := 4) (v := ?v6) rfl (by kernel_rfl) (by kernel_rfl) (by kernel_rfl) (fun _ _ _ h => h) (Or.inl ⟨by rfl, ?hy6⟩) (by assumption) ?rest6
        case hy6 => (intro w hSw; (try dsimp only at hSw); simp only [List.getElem_toArray, List.getElem_cons_zero, List.getElem_cons_succ]; go_simp; (try with_reducible rfl))
        (try simp only [Act.put, List.getElem_toArray, List.getElem_cons_zero, List.getElem_cons_succ, List.setIfInBounds_toArray, List.set_cons_zero, List.set_cons_succ])
        refine wpAnyH_ready (rs := [5]) (by kernel_rfl) (by simp) ?_
        refine AllReadyH.cons rfl (fun KK hK => ?_) ?_
        · simp only [List.getElem_toArray, List.getElem_cons_zero, List.getElem_cons_succ]
          go_simp
          refine hK.out _ _ ?hS7 (fun hHeld2 => ?rest7)
          case hS7 => exact ((Out.refl G (G + 1) w5).setCell (.inl ⟨Nat.le_refl _, Nat.lt_succ_self _⟩) _).cell hHeld (by have := HK.out; omega)
          clear hK KK
          (try clear hHeld)
          have hHeld := hHeld2
          clear hHeld2
          (try simp only [Act.put, List.getElem_toArray, List.getElem_cons_zero, List.getElem_cons_succ, List.setIfInBounds_toArray, List.set_cons_zero, List.set_cons_succ])
          refine wpAnyH_done (by kernel_rfl) ?_ _
          clear hHeld
          simp only [noOut, onlyN]
          gi_wp2
          have hset := (Out.refl G (G + 1) w5).setCell (p := ⟨G, 0, none⟩) (.inl ⟨Nat.le_refl _, Nat.lt_succ_self _⟩) (.int .i64 (IntKind.i64.wrap ((u : Int) + ((roomN b2 : Nat) : Int))))
          have hq5 : Out 0 0 W2 w5 := ((Out.refl 0 0 W2).drew).trans HOO.out
          have hbx := HX5.out.set (.int .i64 (IntKind.i64.wrap ((u : Int) + ((roomN b2 : Nat) : Int))))
          rw [HWR.out] at hbx hset
          (try rw [HWR.out])
          have hT := HT.out
          have hK := HK.out
          have hgw := HGw.out
          exact ⟨(hq5.any _ _).trans (hset.wide (Nat.zero_le _) (by omega)), by omega, (HR2.out.quiet hq5).kept hset (.inl (by omega)) (.inl (by omega)), ⟨_, A.out.2.2.2.2.1, by rw [A.out.2.2.2.2.2]; omega⟩, by rw [A.out.2.2.2.2.2]; exact hbx, (HZ2.out.kept hq5 (.inr (Nat.zero_le _))).kept hset (by omega), out_far (HO2.out.trans hq5) hset (.inl (by omega))⟩
        · exact AllReadyH.nil
      · exact AllReadyH.nil
    · refine AllReadyH.cons rfl (fun KK hK => ?_) ?_
      · simp only [List.getElem_toArray, List.getElem_cons_zero, List.getElem_cons_succ]
        go_simp
        refine (HRoom.out _).mono ?_
        rintro e w5 ⟨rfl, hoo⟩
        have hx5 := HX2.out.kept (((Out.refl 0 0 _).drew).trans hoo) (.inr (Nat.zero_le _))
        have e0 := hx5.cell
        have e1 := hx5.frozen
        have HX5 := hid_mk hx5
        have HOO := hid_mk hoo
        clear hx5
        refine hK.out _ _ ?hS8 (fun hHeld2 => ?rest8)
        case hS8 => exact hoo.cell hHeld (.inr (Nat.zero_le _))
        clear hK KK
        (try clear hHeld)
        have hHeld := hHeld2
        clear hHeld2
        (try simp only [Act.put, List.getElem_toArray, List.getElem_cons_zero, List.getElem_cons_succ, List.setIfInBounds_toArray, List.set_cons_zero, List.set_cons_succ])
        refine wpAnyH_ready (rs := [0]) (by kernel_rfl) (by simp) ?_
        refine AllReadyH.cons rfl (fun KK hK => ?_) ?_
        · simp only [List.getElem_toArray, List.getElem_cons_zero, List.getElem_cons_succ]
          go_simp
          refine hK.out _ _ ?hS9 (fun hHeld2 => ?rest9)
          case hS9 => exact hHeld
          clear hK KK
          (try clear hHeld)
          have hHeld := hHeld2
          clear hHeld2
          (try simp only [Act.put, List.getElem_toArray, List.getElem_cons_zero, List.getElem_cons_succ, List.setIfInBounds_toArray, List.set_cons_zero, List.set_cons_succ])
          refine wpAnyH_take (i := 4) (v := ?v10) rfl (by kernel_rfl) (by kernel_rfl) (by kernel_rfl) (fun _ _ _ h => h) (Or.inl ⟨by rfl, ?hy10⟩) (by assumption) ?rest10
          case hy10 => (intro w hSw; (try dsimp only at hSw); simp only [List.getElem_toArray, List.getElem_cons_zero, List.getElem_cons_succ]; go_simp; (try with_reducible rfl))
          (try simp only [Act.put, List.getElem_toArray, List.getElem_cons_zero, List.getElem_cons_succ, List.setIfInBounds_toArray, List.set_cons_zero, List.set_cons_succ])
          refine wpAnyH_ready (rs := [5]) (by kernel_rfl) (by simp) ?_
          refine AllReadyH.cons rfl (fun KK hK => ?_) ?_
          · simp only [List.getElem_toArray, List.getElem_cons_zero, List.getElem_cons_succ]
            go_simp
            refine hK.out _ _ ?hS11 (fun hHeld2 => ?rest11)
            case hS11 => exact ((Out.refl G (G + 1) w5).setCell (.inl ⟨Nat.le_refl _, Nat.lt_succ_self _⟩) _).cell hHeld (by have := HK.out; omega)
            clear hK KK
            (try clear hHeld)
            have hHeld := hHeld2
            clear hHeld2
            (try simp only [Act.put, List.getElem_toArray, List.getElem_cons_zero, List.getElem_cons_succ, List.setIfInBounds_toArray, List.set_cons_zero, List.set_cons_succ])
            refine wpAnyH_done (by kernel_rfl) ?_ _
            clear hHeld
            simp only [noOut, onlyN]
            gi_wp2
            have hset := (Out.refl G (G + 1) w5).setCell (p := ⟨G, 0, none⟩) (.inl ⟨Nat.le_refl _, Nat.lt_succ_self _⟩) (.int .i64 (IntKind.i64.wrap ((u : Int) + ((roomN b2 : Nat) : Int))))
            have hq5 : Out 0 0 W2 w5 := ((Out.refl 0 0 W2).drew).trans HOO.out
            have hbx := HX5.out.set (.int .i64 (IntKind.i64.wrap ((u : Int) + ((roomN b2 : Nat) : Int))))
            rw [HWR.out] at hbx hset
            (try rw [HWR.out])
            have hT := HT.out
            have hK := HK.out
            have hgw := HGw.out
            exact ⟨(hq5.any _ _).trans (hset.wide (Nat.zero_le _) (by omega)), by omega, (HR2.out.quiet hq5).kept hset (.inl (by omega)) (.inl (by omega)), ⟨_, A.out.2.2.2.2.1, by rw [A.out.2.2.2.2.2]; omega⟩, by rw [A.out.2.2.2.2.2]; exact hbx, (HZ2.out.kept hq5 (.inr (Nat.zero_le _))).kept hset (by omega), out_far (HO2.out.trans hq5) hset (.inl (by omega))⟩
          · exact AllReadyH.nil
        · exact AllReadyH.nil
      · exact AllReadyH.nil
  case hdone1 =>
    rintro W ⟨a1, a2, a3, a4⟩ hd
    rw [hs1] at hd
    obtain ⟨u, hu1⟩ : ∃ u, usedTo r (64 * n) = u := ⟨_, rfl⟩
    rw [hu1] at a2 a3
    have HD := hid_mk hd
    have HU := hid_mk a2
    have HX := hid_mk a3
    have HO := hid_mk a4
    have HWd := hid_mk (HW.out W.drew (a1.quiet ((Out.refl 0 0 _).drew)))
    have c0 := a3.cell
    have u0 : (0 : Int) ≤ (u : Int) := by omega
    rw [hs1]
    have hv := HV.out
    rw [hu1] at hv
    have hcv1 : ∀ wx, (convert 3 67 (.int .i64 (u : Int))).run Tryz.prog wx = .ok (.float .f64 (floatOfInt .f64 (u : Int))) wx := fun wx => run_convert_int_float wx _ _ _ _ _ (by rw [Tryz.underlying3]; rfl) Tryz.underlying67
    have hcv2 : ∀ wx, (convert 3 67 (.int .i64 (64 * (n : Int)))).run Tryz.prog wx = .ok (.float .f64 (floatOfInt .f64 (64 * (n : Int)))) wx := fun wx => run_convert_int_float wx _ _ _ _ _ (by rw [Tryz.underlying3]; rfl) Tryz.underlying67
    have hdv : ∀ wx, (binOp .quo 67 (.float .f64 (floatOfInt .f64 (u : Int))) (.float .f64 (floatOfInt .f64 (64 * (n : Int))))).run Tryz.prog wx = .ok (.float .f64 v) wx := fun wx => run_float_arith wx _ _ _ _ _ _ hv
    have hw64 : ((64 * n : Nat) : Int) = 64 * (n : Int) := by omega
    rw [hw64] at HWd
    generalize floatOfInt .f64 (u : Int) = x1 at *
    generalize floatOfInt .f64 (64 * (n : Int)) = x2 at *
    clear hw64 hv
    clear a1 a2 a3 a4 hd hu1
    gi_wp2_with fail
    refine wpIn_only ?_
    refine wp_region_held_drew (S := fun w' => w'.cell? ⟨G, 0, none⟩ = some (.int .i64 (u : Int))) (by kernel_rfl) ?hS12 (fun hHeld => ?rest12)
    case hS12 => exact c0
    refine wpAnyH_take (i := 0) (v := ?v13) rfl (by kernel_rfl) (by kernel_rfl) (by kernel_rfl) (fun _ _ _ h => h) (Or.inl ⟨by rfl, ?hy13⟩) (by assumption) ?rest13
    case hy13 => (intro w hSw; (try dsimp only at hSw); simp only [List.getElem_toArray, List.getElem_cons_zero, List.getElem_cons_succ]; go_simp; (try with_reducible rfl))
    (try simp only [Act.put, List.getElem_toArray, List.getElem_cons_zero, List.getElem_cons_succ, List.setIfInBounds_toArray, List.set_cons_zero, List.set_cons_succ])
    refine wpAnyH_take (i := 1) (v := ?v14) rfl (by kernel_rfl) (by kernel_rfl) (by kernel_rfl) (fun _ _ _ h => h) (Or.inl ⟨by rfl, ?hy14⟩) (by assumption) ?rest14
    case hy14 => (intro w hSw; (try dsimp only at hSw); simp only [List.getElem_toArray, List.getElem_cons_zero, List.getElem_cons_succ]; go_simp; (try with_reducible rfl))
    (try simp only [Act.put, List.getElem_toArray, List.getElem_cons_zero, List.getElem_cons_succ, List.setIfInBounds_toArray, List.set_cons_zero, List.set_cons_succ])
    refine wpAnyH_take (i := 2) (v := ?v15) rfl (by kernel_rfl) (by kernel_rfl) (by kernel_rfl) (fun _ _ _ h => h) (Or.inl ⟨by rfl, ?hy15⟩) (by assumption) ?rest15
    case hy15 => (intro w hSw; (try dsimp only at hSw); simp only [List.getElem_toArray, List.getElem_cons_zero, List.getElem_cons_succ]; go_simp; (try with_reducible rfl))
    (try simp only [Act.put, List.getElem_toArray, List.getElem_cons_zero, List.getElem_cons_succ, List.setIfInBounds_toArray, List.set_cons_zero, List.set_cons_succ])
    refine wpAnyH_ready (rs := [3]) (by kernel_rfl) (by simp) ?_
    refine AllReadyH.cons rfl (fun KK hK => ?_) AllReadyH.nil
    simp only [List.getElem_toArray, List.getElem_cons_zero, List.getElem_cons_succ]
    go_simp
    refine HWd.out.mono ?_
    rintro e w5 ⟨rfl, rfl⟩
    refine hK.out _ _ ?hS16 (fun hHeld2 => ?rest16)
    case hS16 => exact hHeld
    clear hK KK
    (try clear hHeld)
    have hHeld := hHeld2
    clear hHeld2
    (try simp only [Act.put, List.getElem_toArray, List.getElem_cons_zero, List.getElem_cons_succ, List.setIfInBounds_toArray, List.set_cons_zero, List.set_cons_succ])
    refine wpAnyH_take (i := 4) (v := ?v17) rfl (by kernel_rfl) (by kernel_rfl) (by kernel_rfl) (fun _ _ _ h => h) (Or.inl ⟨by rfl, ?hy17⟩) (by assumption) ?rest17
    case hy17 => (intro w hSw; (try dsimp only at hSw); simp only [List.getElem_toArray, List.getElem_cons_zero, List.getElem_cons_succ]; go_simp; (try with_reducible rfl))
    (try simp only [Act.put, List.getElem_toArray, List.getElem_cons_zero, List.getElem_cons_succ, List.setIfInBounds_toArray, List.set_cons_zero, List.set_cons_succ])
    refine wpAnyH_take (i := 5) (v := ?v18) rfl (by kernel_rfl) (by kernel_rfl) (by kernel_rfl) (fun _ _ _ h => h) (Or.inl ⟨by rfl, ?hy18⟩) (by assumption) ?rest18
    case hy18 => (intro w hSw; (try dsimp only at hSw); simp only [List.getElem_toArray, List.getElem_cons_zero, List.getElem_cons_succ]; go_simp; (try with_reducible rfl))
    (try simp only [Act.put, List.getElem_toArray, List.getElem_cons_zero, List.getElem_cons_succ, List.setIfInBounds_toArray, List.set_cons_zero, List.set_cons_succ])
    refine wpAnyH_take (i := 6) (v := ?v19) rfl (by kernel_rfl) (by kernel_rfl) (by kernel_rfl) (fun _ _ _ h => h) (Or.inl ⟨by rfl, ?hy19⟩) (by assumption) ?rest19
    case hy19 => (intro w hSw; (try dsimp only at hSw); simp only [List.getElem_toArray, List.getElem_cons_zero, List.getElem_cons_succ]; go_simp; (try with_reducible rfl))
    (try simp only [Act.put, List.getElem_toArray, List.getElem_cons_zero, List.getElem_cons_succ, List.setIfInBounds_toArray, List.set_cons_zero, List.set_cons_succ])
    refine wpAnyH_done (by kernel_rfl) ?_ _
    clear hHeld
    simp only [onlyN]
    gi_wp2
    have hT := HT.out
    have hgw := HGw.out
    refine ⟨by simp, .inl ⟨_, _, rfl, run_takeDeferred (((Out.refl 0 0 W).drew).heap HD.out (.inr (Nat.zero_le _))), ?_⟩⟩
    exact ⟨_, results_tmp rfl _ _ _, rfl, out_far (HO.out.trans ((Out.refl 0 0 W).drew)) (out_putObj _ _ _) (by omega)⟩
end
end Go.Proofs.YtjbbkeoolodeaaaGreatDoor
