/- a step that looks: All -/
import Derived.Test.YtfkmaanfgkkjcaaDoorGs
import Derived.Deep.RegionHeld3
namespace Go.Proofs.YtfkmaanfgkkjcaaDoor
open Go.RowKit
set_option linter.unusedVariables false
set_option linter.unusedSimpArgs false

theorem look_nums {nl nm nS : Nat} {u : Bool} {L Ls : List Value} {Mk : List Nat} {x y : Value} (hN : Nums nl nm u) (hu : u = true) (h2 : L.length = nl) (h3 : Ls.length = Mk.length) (h4 : Mk.length = nm) (h5 : Ls.length = nS) (h6 : nS < 600) : Nums (L ++ [x, y]).length (Mk.length + 18) true := by
  obtain ⟨m, m1, m2, m3⟩ := hN.1 hu
  refine ⟨fun _ => ⟨m + 1, ?_, by omega, by omega⟩, fun h => by cases h⟩
  rw [List.length_append]
  show L.length + 2 = _
  omega
set_option maxRecDepth 100000 in
set_option maxHeartbeats 40000000 in
theorem looked_12 {B : Nat} {w : World} {d : Desc} (h : PairK B w d) (hu : d.u = true) (z a : Int) :
    Calls Tryd.prog 11 #[.pointer (some ⟨d.b, 0, none⟩), .agg #[.int .i64 z, .int .i64 12, .int .i64 a]] w fun e w' => e = .returned (.bool true) ∧ ∃ d', Act B w w' d d' ∧ d'.u = true := by
  have HP := hid_mk h
  have HU := hid_mk hu
  have o1 : Out 0 0 w (w.alloc (.cells #[.int .i64 z, .int .i64 12, .int .i64 a] 28)) := (Out.refl _ _ _).alloc _
  have hx := heap_alloc_new w (.cells #[.int .i64 z, .int .i64 12, .int .i64 a] 28)
  obtain ⟨X, hX⟩ : ∃ X, w.heap.size = X := ⟨_, rfl⟩
  obtain ⟨W1, hW⟩ : ∃ W1, w.alloc (.cells #[.int .i64 z, .int .i64 12, .int .i64 a] 28) = W1 := ⟨_, rfl⟩
  rw [hW] at o1 hx
  rw [hX] at hx
  have HO1 := hid_mk o1
  have HP1 := hid_mk (h.quiet o1)
  have HA : Hid (∀ w', Out 0 0 W1 w' → Calls Tryd.prog 17 #[.pointer (some ⟨d.bt, 0, none⟩)] w' fun e w'' => ∃ g cap', e = .returned (.slice (some ⟨g, 0, none⟩) d.n cap') ∧ ListIs w'' w'.heap.size (.slice (some ⟨g, 0, none⟩) d.n cap') (pgl d.S d.n) ∧ Out 0 0 w' w'') := fun w' o => all_any (HP1.out.quiet o).2.2.1
  obtain ⟨capr, cr, _⟩ := HP1.out.2.2.2.1.cell
  have HS : Hid (∀ w' g cap', Out 0 0 W1 w' → ListIs w' W1.heap.size (.slice (some ⟨g, 0, none⟩) d.n cap') (pgl d.S d.n) → Calls Tryd.prog 21 #[.slice (some ⟨g, 0, none⟩) d.n cap', .slice (some ⟨d.bwr, 0, none⟩) d.n capr] w' fun e w'' => e = .returned (.bool true) ∧ Out 0 0 w' w'') := fun w' g cap' o hs => same_any hs.slice (HP1.out.quiet o).2.2.2.1.row.slice (by rw [pgl_len]; exact HP1.out.2.2.2.1.nums.2.1)
  obtain ⟨x0, x1, x2⟩ := op_cells hx
  obtain ⟨⟨vL, vW, vS, vM, L, Wr, Ls, Mk, C, hk, k1, k2, k3, k4⟩, hN, _⟩ := HP1.out
  obtain ⟨aL, capL, rfl⟩ := own_shape hk.oL
  obtain ⟨aW, capW, rfl⟩ := own_shape hk.oW
  obtain ⟨aS, capS, rfl⟩ := own_shape hk.oS
  obtain ⟨c0, c1, c2, c3, c4, _, _⟩ := keep_cells hk.hb
  rw [hu] at hk
  have HK := hid_mk hk
  have HN := hid_mk hN
  have Hk1 := hid_mk (k1 hu)
  have Hk2 := hid_mk k2
  have Hk3 := hid_mk k3
  have Hk4 := hid_mk k4
  obtain ⟨n, hn⟩ : ∃ n, d.n = n := ⟨_, rfl⟩
  have Hn := hid_mk hn
  have n4 : (n : Int) ≤ 4096 := by have := HP1.out.2.2.1.nums; omega
  rw [hn] at HA HS cr
  obtain ⟨nS, hnS⟩ : ∃ nS, Ls.length = nS := ⟨_, rfl⟩
  have HnS := hid_mk hnS
  rw [hnS] at c4
  have s4 : (nS : Int) ≤ 612 := by have := hN.1 hu; omega
  clear h hu o1 hx hk hN k1 k2 k3 k4 hn hnS
  go_enter Tryd.func11, Tryd.ntmps11
  go_wp2_with fail
  refine (HA.out _ (Out.refl 0 0 _)).mono ?_
  rintro e w2 ⟨g, cap, rfl, hl, ho⟩
  have HL2 := hid_mk hl
  have HO2 := hid_mk ho
  have d1 := ho.cell c1 (.inr (Nat.zero_le _))
  have dr := ho.cell cr (.inr (Nat.zero_le _))
  clear hl ho x0 x1 x2
  go_wp2_with fail
  refine (HS.out _ _ _ HO2.out HL2.out).mono ?_
  rintro e w3 ⟨rfl, ho⟩
  have HO3 := hid_mk ho
  have e4 := (HO2.out.trans ho).cell c4 (.inr (Nat.zero_le _))
  have e0 := (HO2.out.trans ho).cell c0 (.inr (Nat.zero_le _))
  have e2 := (HO2.out.trans ho).cell c2 (.inr (Nat.zero_le _))
  clear ho d1 dr HS
  by_cases hgo : nS < 600 ∧ n ≤ 64
  · obtain ⟨g1, g2⟩ := hgo
    have b1 : (nS : Int) < 600 := by omega
    have b2 : (n : Int) ≤ 64 := by omega
    have HOa := hid_mk (HO2.out.trans HO3.out)
    have HB := hid_mk HK.out.hB
    have HkL : Hid (L.length ≤ 66) := by show L.length ≤ 66; have := HN.out.1 HU.out; have := Hk2.out; have := Hk3.out; have := Hk4.out; have := HnS.out; omega
    obtain ⟨i1, hi1, hy0, hy1, hy2⟩ := info_parts info_sl
    go_wp2_with fail
    clear e4 g1 g2 c0 c1 c2 c3 c4 cr
    refine wp_region_held_drew (S := fun w' => w'.cell? ⟨d.b, 0, none⟩ = some (.pointer (some ⟨d.bt, 0, none⟩))) (by kernel_rfl) ?hS1 (fun hHeld => ?rest1)
    case hS1 => exact e0
    refine wpAnyH_take (i := 0) (v := ?v2) rfl (by kernel_rfl) (by kernel_rfl) (by kernel_rfl) (fun _ _ _ h => h) (Or.inl ⟨by rfl, ?hy2⟩) (by assumption) ?rest2
    case hy2 => (intro w hSw; (try dsimp only at hSw); simp only [List.getElem_toArray, List.getElem_cons_zero, List.getElem_cons_succ]; go_simp; (try with_reducible rfl))
    (try simp only [Act.put, List.getElem_toArray, List.getElem_cons_zero, List.getElem_cons_succ, List.setIfInBounds_toArray, List.set_cons_zero, List.set_cons_succ])
    refine wpAnyH_take (i := 1) (v := ?v3) rfl (by kernel_rfl) (by kernel_rfl) (by kernel_rfl) (fun _ _ _ h => h) (Or.inl ⟨by rfl, ?hy3⟩) (by assumption) ?rest3
    case hy3 => (intro w hSw; (try dsimp only at hSw); simp only [List.getElem_toArray, List.getElem_cons_zero, List.getElem_cons_succ]; go_simp; (try with_reducible rfl))
    (try simp only [Act.put, List.getElem_toArray, List.getElem_cons_zero, List.getElem_cons_succ, List.setIfInBounds_toArray, List.set_cons_zero, List.set_cons_succ])
    refine wpAnyH_take (i := 2) (v := ?v4) rfl (by kernel_rfl) (by kernel_rfl) (by kernel_rfl) (fun _ _ _ h => h) (Or.inl ⟨by rfl, ?hy4⟩) (by assumption) ?rest4
    case hy4 => (intro w hSw; (try dsimp only at hSw); simp only [List.getElem_toArray, List.getElem_cons_zero, List.getElem_cons_succ]; go_simp; (try with_reducible rfl))
    (try simp only [Act.put, List.getElem_toArray, List.getElem_cons_zero, List.getElem_cons_succ, List.setIfInBounds_toArray, List.set_cons_zero, List.set_cons_succ])
    refine wpAnyH_take (i := 3) (v := ?v5) rfl (by kernel_rfl) (by kernel_rfl) (by kernel_rfl) (fun _ _ _ h => h) (Or.inl ⟨by rfl, ?hy5⟩) (by assumption) ?rest5
    case hy5 => (intro w hSw; (try dsimp only at hSw); simp only [List.getElem_toArray, List.getElem_cons_zero, List.getElem_cons_succ]; go_simp; (try with_reducible rfl))
    (try simp only [Act.put, List.getElem_toArray, List.getElem_cons_zero, List.getElem_cons_succ, List.setIfInBounds_toArray, List.set_cons_zero, List.set_cons_succ])
    refine wpAnyH_take (i := 5) (v := ?v6) rfl (by kernel_rfl) (by kernel_rfl) (by kernel_rfl) (fun _ _ _ h => h) (Or.inl ⟨by rfl, ?hy6⟩) (by assumption) ?rest6
    case hy6 => (intro w hSw; (try dsimp only at hSw); simp only [List.getElem_toArray, List.getElem_cons_zero, List.getElem_cons_succ]; go_simp; (try with_reducible rfl))
    (try simp only [Act.put, List.getElem_toArray, List.getElem_cons_zero, List.getElem_cons_succ, List.setIfInBounds_toArray, List.set_cons_zero, List.set_cons_succ])
    refine wpAnyH_take (i := 6) (v := ?v7) rfl (by kernel_rfl) (by kernel_rfl) (by kernel_rfl) (fun _ _ _ h => h) (Or.inl ⟨by rfl, ?hy7⟩) (by assumption) ?rest7
    case hy7 => (intro w hSw; (try dsimp only at hSw); simp only [List.getElem_toArray, List.getElem_cons_zero, List.getElem_cons_succ]; go_simp; (try with_reducible rfl))
    (try simp only [Act.put, List.getElem_toArray, List.getElem_cons_zero, List.getElem_cons_succ, List.setIfInBounds_toArray, List.set_cons_zero, List.set_cons_succ])
    refine wpAnyH_take (i := 7) (v := ?v8) rfl (by kernel_rfl) (by kernel_rfl) (by kernel_rfl) (fun _ _ _ h => h) (Or.inl ⟨by rfl, ?hy8⟩) (by assumption) ?rest8
    case hy8 => (intro w hSw; (try dsimp only at hSw); simp only [List.getElem_toArray, List.getElem_cons_zero, List.getElem_cons_succ]; go_simp; (try with_reducible rfl))
    (try simp only [Act.put, List.getElem_toArray, List.getElem_cons_zero, List.getElem_cons_succ, List.setIfInBounds_toArray, List.set_cons_zero, List.set_cons_succ])
    refine wpAnyH_take (i := 8) (v := ?v9) rfl (by kernel_rfl) (by kernel_rfl) (by kernel_rfl) (fun _ _ _ h => h) (Or.inl ⟨by rfl, ?hy9⟩) (by assumption) ?rest9
    case hy9 => (intro w hSw; (try dsimp only at hSw); simp only [List.getElem_toArray, List.getElem_cons_zero, List.getElem_cons_succ]; go_simp; (try with_reducible rfl))
    (try simp only [Act.put, List.getElem_toArray, List.getElem_cons_zero, List.getElem_cons_succ, List.setIfInBounds_toArray, List.set_cons_zero, List.set_cons_succ])
    refine wpAnyH_take (i := 10) (v := ?v10) rfl (by kernel_rfl) (by kernel_rfl) (by kernel_rfl) (fun _ _ _ h => h) (Or.inl ⟨by rfl, ?hy10⟩) (by assumption) ?rest10
    case hy10 => (intro w hSw; (try dsimp only at hSw); simp only [List.getElem_toArray, List.getElem_cons_zero, List.getElem_cons_succ]; go_simp; (try with_reducible rfl))
    (try simp only [Act.put, List.getElem_toArray, List.getElem_cons_zero, List.getElem_cons_succ, List.setIfInBounds_toArray, List.set_cons_zero, List.set_cons_succ])
    refine wpAnyH_take (i := 11) (v := ?v11) rfl (by kernel_rfl) (by kernel_rfl) (by kernel_rfl) (fun _ _ _ h => h) (Or.inl ⟨by rfl, ?hy11⟩) (by assumption) ?rest11
    case hy11 => (intro w hSw; (try dsimp only at hSw); simp only [List.getElem_toArray, List.getElem_cons_zero, List.getElem_cons_succ]; go_simp; (try with_reducible rfl))
    (try simp only [Act.put, List.getElem_toArray, List.getElem_cons_zero, List.getElem_cons_succ, List.setIfInBounds_toArray, List.set_cons_zero, List.set_cons_succ])
    refine wpAnyH_take (i := 12) (v := ?v12) rfl (by kernel_rfl) (by kernel_rfl) (by kernel_rfl) (fun _ _ _ h => h) (Or.inl ⟨by rfl, ?hy12⟩) (by assumption) ?rest12
    case hy12 => (intro w hSw; (try dsimp only at hSw); simp only [List.getElem_toArray, List.getElem_cons_zero, List.getElem_cons_succ]; go_simp; (try with_reducible rfl))
    (try simp only [Act.put, List.getElem_toArray, List.getElem_cons_zero, List.getElem_cons_succ, List.setIfInBounds_toArray, List.set_cons_zero, List.set_cons_succ])
    refine wpAnyH_take (i := 13) (v := ?v13) rfl (by kernel_rfl) (by kernel_rfl) (by kernel_rfl) (fun _ _ _ h => h) (Or.inl ⟨by rfl, ?hy13⟩) (by assumption) ?rest13
    case hy13 => (intro w hSw; (try dsimp only at hSw); simp only [List.getElem_toArray, List.getElem_cons_zero, List.getElem_cons_succ]; go_simp; (try with_reducible rfl))
    (try simp only [Act.put, List.getElem_toArray, List.getElem_cons_zero, List.getElem_cons_succ, List.setIfInBounds_toArray, List.set_cons_zero, List.set_cons_succ])
    refine wpAnyH_ready (rs := [4, 9]) (by kernel_rfl) (by simp) ?_
    refine AllReadyH.cons rfl (fun K hK => ?_) ?_
    · simp only [List.getElem_toArray, List.getElem_cons_zero, List.getElem_cons_succ]
      go_simp
      refine hK.out _ _ ?hS14 (fun hHeld2 => ?rest14)
      case hS14 => assumption
      clear hK K
      (try clear hHeld)
      have hHeld := hHeld2
      clear hHeld2
      (try simp only [Act.put, List.getElem_toArray, List.getElem_cons_zero, List.getElem_cons_succ, List.setIfInBounds_toArray, List.set_cons_zero, List.set_cons_succ])
      refine wpAnyH_ready (rs := [9]) (by kernel_rfl) (by simp) ?_
      refine AllReadyH.cons rfl (fun K hK => ?_) ?_
      · simp only [List.getElem_toArray, List.getElem_cons_zero, List.getElem_cons_succ]
        go_simp
        refine (HA.out _ ?hw15).mono ?_
        (case hw15 => exact HOa.out.drew)
        rintro e w4 ⟨ga, capa, rfl, hl4, ho4⟩
        have HL4 : Hid (ListIs w4 w3.heap.size (.slice (some ⟨ga, 0, none⟩) n capa) (pgl d.S n)) := hl4
        have HO4 : Hid (Out 0 0 w3 w4) := (Out.refl 0 0 w3).drew.trans ho4
        have f0 := HO4.out.cell e0 (.inr (Nat.zero_le _))
        have f2 := HO4.out.cell e2 (.inr (Nat.zero_le _))
        clear hl4 ho4
        go_wp2_with fail
        refine hK.out _ _ ?hS15 (fun hHeld2 => ?rest15)
        case hS15 => exact f0
        clear hK K
        (try clear hHeld)
        have hHeld := hHeld2
        clear hHeld2
        (try simp only [Act.put, List.getElem_toArray, List.getElem_cons_zero, List.getElem_cons_succ, List.setIfInBounds_toArray, List.set_cons_zero, List.set_cons_succ])
        refine wpAnyH_ready (rs := [14]) (by kernel_rfl) (by simp) ?_
        refine AllReadyH.cons rfl (fun K hK => ?_) ?_
        · simp only [List.getElem_toArray, List.getElem_cons_zero, List.getElem_cons_succ]
          go_simp
          refine (HA.out _ ?hw16).mono ?_
          (case hw16 => exact HOa.out.trans HO4.out)
          rintro e w5 ⟨gb, capb, rfl, hl5, ho5⟩
          have HL5 := hid_mk hl5
          have HO45 := hid_mk ho5
          have HO5 := hid_mk (HO4.out.trans ho5)
          have k0 := HO5.out.cell e0 (.inr (Nat.zero_le _))
          have k2 := HO5.out.cell e2 (.inr (Nat.zero_le _))
          have k0' := (HO5.out.alloc (.cells #[.slice (some ⟨ga, 0, none⟩) n capa, .slice (some ⟨gb, 0, none⟩) n capb] 37)).cell e0 (.inr (Nat.zero_le _))
          have k2' := (HO5.out.alloc (.cells #[.slice (some ⟨ga, 0, none⟩) n capa, .slice (some ⟨gb, 0, none⟩) n capb] 37)).cell e2 (.inr (Nat.zero_le _))
          clear hl5 ho5
          go_wp2_with fail
          refine hK.out _ _ ?hS16 (fun hHeld2 => ?rest16)
          case hS16 => exact k0
          clear hK K
          (try clear hHeld)
          have hHeld := hHeld2
          clear hHeld2
          (try simp only [Act.put, List.getElem_toArray, List.getElem_cons_zero, List.getElem_cons_succ, List.setIfInBounds_toArray, List.set_cons_zero, List.set_cons_succ])
          refine wpAnyH_ready (rs := [15]) (by kernel_rfl) (by simp) ?_
          refine AllReadyH.cons rfl (fun K hK => ?_) ?_
          · simp only [List.getElem_toArray, List.getElem_cons_zero, List.getElem_cons_succ]
            go_simp
            refine hK.out _ _ ?hS17 (fun hHeld2 => ?rest17)
            case hS17 => exact k0'
            clear hK K
            (try clear hHeld)
            have hHeld := hHeld2
            clear hHeld2
            (try simp only [Act.put, List.getElem_toArray, List.getElem_cons_zero, List.getElem_cons_succ, List.setIfInBounds_toArray, List.set_cons_zero, List.set_cons_succ])
            refine wpAnyH_ready (rs := [16]) (by kernel_rfl) (by simp) ?_
            refine AllReadyH.cons rfl (fun K hK => ?_) ?_
            · refine app_step (by rfl) _ _ 56 (by rfl) B 37 i1 (.slice none 0 0) 24 Tryd.underlying56 hi1 hy0 hy1 hy2 rfl (.slice aL L.length capL) L.length L (by rfl) (own_kept HK.out.oL ((HOa.out.trans HO5.out).alloc _) (Nat.zero_le _)) ⟨w5.heap.size, 0, none⟩ 2 2 [.slice (some ⟨ga, 0, none⟩) n capa, .slice (some ⟨gb, 0, none⟩) n capb] (by rfl) (by rfl) (two_cells _ _ _ _) (two_one rfl rfl) (by decide) (by unfold maxLen; have := HkL.out; omega) (by have := HkL.out; omega) (by have := HB.out; have := HOa.out.size; have := HO5.out.size; simp; omega) ?_
              intro g6 cap6 w6 own6 gr6
              obtain ⟨hb6, col6, fx6, kf6, lf6, cf6⟩ := left_two HK.out Hk1.out (by rw [pgl_len]; omega) HO2.out HL2.out (HO3.out.trans HO4.out) (own_mono HL4.out HO3.out.size) HO45.out HL5.out ((Out.refl 0 0 _).alloc _) own6 gr6
              obtain ⟨q0, _, q2, _, _, _, qf⟩ := keep_cells hb6
              have qf2 := qf 2
              obtain ⟨s0, s1, _, s3, _, _, _⟩ := keep_cells kf6.hb
              have HK6 := hid_mk kf6
              have HF6 := hid_mk fx6
              have HL6 := hid_mk lf6
              have HC6 := hid_mk cf6
              clear hb6 fx6 kf6 lf6 cf6 qf own6 gr6
              refine hK.out _ _ ?hS18 (fun hHeld2 => ?rest18)
              case hS18 => exact q0
              clear hK K
              (try clear hHeld)
              have hHeld := hHeld2
              clear hHeld2
              (try simp only [Act.put, List.getElem_toArray, List.getElem_cons_zero, List.getElem_cons_succ, List.setIfInBounds_toArray, List.set_cons_zero, List.set_cons_succ])
              refine wpAnyH_take (i := 17) (v := ?v19) rfl (by kernel_rfl) (by kernel_rfl) (by kernel_rfl) (fun _ _ _ h => h) (Or.inl ⟨by rfl, ?hy19⟩) (by assumption) ?rest19
              case hy19 => (intro w hSw; (try dsimp only at hSw); simp only [List.getElem_toArray, List.getElem_cons_zero, List.getElem_cons_succ]; go_simp; (try with_reducible rfl))
              (try simp only [Act.put, List.getElem_toArray, List.getElem_cons_zero, List.getElem_cons_succ, List.setIfInBounds_toArray, List.set_cons_zero, List.set_cons_succ])
              refine wpAnyH_take (i := 18) (v := ?v20) rfl (by kernel_rfl) (by kernel_rfl) (by kernel_rfl) (fun _ _ _ h => h) (Or.inl ⟨by rfl, ?hy20⟩) (by assumption) ?rest20
              case hy20 => (intro w hSw; (try dsimp only at hSw); simp only [List.getElem_toArray, List.getElem_cons_zero, List.getElem_cons_succ]; go_simp; (try with_reducible rfl))
              (try simp only [Act.put, List.getElem_toArray, List.getElem_cons_zero, List.getElem_cons_succ, List.setIfInBounds_toArray, List.set_cons_zero, List.set_cons_succ])
              refine wpAnyH_ready (rs := [19]) (by kernel_rfl) (by simp) ?_
              refine AllReadyH.cons rfl (fun K hK => ?_) ?_
              · simp only [List.getElem_toArray, List.getElem_cons_zero, List.getElem_cons_succ]
                go_simp
                refine hK.out _ _ ?hS21 (fun hHeld2 => ?rest21)
                case hS21 => exact s0
                clear hK K
                (try clear hHeld)
                have hHeld := hHeld2
                clear hHeld2
                (try simp only [Act.put, List.getElem_toArray, List.getElem_cons_zero, List.getElem_cons_succ, List.setIfInBounds_toArray, List.set_cons_zero, List.set_cons_succ])
                refine wpAnyH_done (by kernel_rfl) ?_ _
                obtain ⟨W7, hW7⟩ : ∃ W7, w6.setCell ⟨d.b, 2, none⟩ (.slice (some ⟨g6, 0, none⟩) (L.length + 2) cap6) = W7 := ⟨_, rfl⟩
                rw [hW7] at HK6 HF6 HL6 s0 s1 s3 ⊢
                have HTr := hid_mk (HF6.out.table HP1.out.2.2.2.1 HP1.out.2.2.2.2.1.2.2.1 HP1.out.2.2.2.2.1.2.2.2)
                obtain ⟨capq, t0, _⟩ := HTr.out.cell
                rw [Hn.out] at t0 HTr
                have HSz : Hid (B ≤ W7.heap.size) := HK6.out.hB
                clear hW7 q0 q2 qf2 s0 hHeld e0 e2 f0 f2 k0 k2 k0' k2'
                go_wp2_with fail
                have HRow : Hid (∀ w', Out 0 0 W7 w' → PRow w' d.bwr n d.S) := fun w' o => (HTr.out.quiet o).row
                have HN1 : Hid (1 ≤ n ∧ n ≤ 4096) := ⟨HTr.out.nums.1, HTr.out.nums.2.1⟩
                have HNe : Hid (d.br ≠ d.b) := fun e => by have h0 := HP1.out.col0.1; rw [← e, HP1.out.2.2.2.2.1.2.2.1] at h0; cases h0
                have H67 : Hid (col6 d.bt = 7 ∧ col6 d.bwt = 7 ∧ col6 d.br = 7 ∧ col6 d.bwr = 7) := by
                  have l := HP1.out.lt
                  have c := HP1.out.2.2.2.2.1
                  exact ⟨HF6.out.2 _ l.1 c.1, HF6.out.2 _ l.2.1 c.2.1, HF6.out.2 _ l.2.2.1 c.2.2.1, HF6.out.2 _ l.2.2.2 c.2.2.2⟩
                refine wp_region_held_drew (S := fun w' => w'.cell? ⟨d.b, 1, none⟩ = some (.pointer (some ⟨d.br, 0, none⟩)) ∧ w'.cell? ⟨d.br, 0, none⟩ = some (.slice (some ⟨d.bwr, 0, none⟩) n capq)) (by kernel_rfl) ?hS22 (fun hHeld => ?rest22)
                case hS22 => exact ⟨s1, t0⟩
                refine wpAnyH_take (i := 0) (v := ?v23) rfl (by kernel_rfl) (by kernel_rfl) (by kernel_rfl) (fun _ _ _ h => h) (Or.inl ⟨by rfl, ?hy23⟩) (by assumption) ?rest23
                case hy23 => (intro w hSw; (try dsimp only at hSw); simp only [List.getElem_toArray, List.getElem_cons_zero, List.getElem_cons_succ]; go_simp; (try with_reducible rfl))
                (try simp only [Act.put, List.getElem_toArray, List.getElem_cons_zero, List.getElem_cons_succ, List.setIfInBounds_toArray, List.set_cons_zero, List.set_cons_succ])
                refine wpAnyH_take (i := 1) (v := ?v24) rfl (by kernel_rfl) (by kernel_rfl) (by kernel_rfl) (fun _ _ _ h => h) (Or.inl ⟨by rfl, ?hy24⟩) (by assumption) ?rest24
                case hy24 => (intro w hSw; (try dsimp only at hSw); simp only [List.getElem_toArray, List.getElem_cons_zero, List.getElem_cons_succ]; go_simp; (try with_reducible rfl))
                (try simp only [Act.put, List.getElem_toArray, List.getElem_cons_zero, List.getElem_cons_succ, List.setIfInBounds_toArray, List.set_cons_zero, List.set_cons_succ])
                refine wpAnyH_take (i := 2) (v := ?v25) rfl (by kernel_rfl) (by kernel_rfl) (by kernel_rfl) (fun _ _ _ h => h) (Or.inl ⟨by rfl, ?hy25⟩) (by assumption) ?rest25
                case hy25 => (intro w hSw; (try dsimp only at hSw); simp only [List.getElem_toArray, List.getElem_cons_zero, List.getElem_cons_succ]; go_simp; (try with_reducible rfl))
                (try simp only [Act.put, List.getElem_toArray, List.getElem_cons_zero, List.getElem_cons_succ, List.setIfInBounds_toArray, List.set_cons_zero, List.set_cons_succ])
                refine wpAnyH_take (i := 3) (v := ?v26) rfl (by kernel_rfl) (by kernel_rfl) (by kernel_rfl) (fun _ _ _ h => h) (Or.inl ⟨by rfl, ?hy26⟩) (by assumption) ?rest26
                case hy26 => (intro w hSw; (try dsimp only at hSw); simp only [List.getElem_toArray, List.getElem_cons_zero, List.getElem_cons_succ]; go_simp; (try with_reducible rfl))
                (try simp only [Act.put, List.getElem_toArray, List.getElem_cons_zero, List.getElem_cons_succ, List.setIfInBounds_toArray, List.set_cons_zero, List.set_cons_succ])
                refine wpAnyH_take (i := 5) (v := ?v27) rfl (by kernel_rfl) (by kernel_rfl) (by kernel_rfl) (fun _ _ _ h => h) (Or.inl ⟨by rfl, ?hy27⟩) (by assumption) ?rest27
                case hy27 => (intro w hSw; (try dsimp only at hSw); simp only [List.getElem_toArray, List.getElem_cons_zero, List.getElem_cons_succ]; go_simp; (try with_reducible rfl))
                (try simp only [Act.put, List.getElem_toArray, List.getElem_cons_zero, List.getElem_cons_succ, List.setIfInBounds_toArray, List.set_cons_zero, List.set_cons_succ])
                refine wpAnyH_take (i := 6) (v := ?v28) rfl (by kernel_rfl) (by kernel_rfl) (by kernel_rfl) (fun _ _ _ h => h) (Or.inl ⟨by rfl, ?hy28⟩) (by assumption) ?rest28
                case hy28 => (intro w hSw; (try dsimp only at hSw); simp only [List.getElem_toArray, List.getElem_cons_zero, List.getElem_cons_succ]; go_simp; (try with_reducible rfl))
                (try simp only [Act.put, List.getElem_toArray, List.getElem_cons_zero, List.getElem_cons_succ, List.setIfInBounds_toArray, List.set_cons_zero, List.set_cons_succ])
                refine wpAnyH_take (i := 7) (v := ?v29) rfl (by kernel_rfl) (by kernel_rfl) (by kernel_rfl) (fun _ _ _ h => h) (Or.inl ⟨by rfl, ?hy29⟩) (by assumption) ?rest29
                case hy29 => (intro w hSw; (try dsimp only at hSw); simp only [List.getElem_toArray, List.getElem_cons_zero, List.getElem_cons_succ]; go_simp; (try with_reducible rfl))
                (try simp only [Act.put, List.getElem_toArray, List.getElem_cons_zero, List.getElem_cons_succ, List.setIfInBounds_toArray, List.set_cons_zero, List.set_cons_succ])
                refine wpAnyH_take (i := 8) (v := ?v30) rfl (by kernel_rfl) (by kernel_rfl) (by kernel_rfl) (fun _ _ _ h => h) (Or.inl ⟨by rfl, ?hy30⟩) (by assumption) ?rest30
                case hy30 => (intro w hSw; (try dsimp only at hSw); simp only [List.getElem_toArray, List.getElem_cons_zero, List.getElem_cons_succ]; go_simp; (try with_reducible rfl))
                (try simp only [Act.put, List.getElem_toArray, List.getElem_cons_zero, List.getElem_cons_succ, List.setIfInBounds_toArray, List.set_cons_zero, List.set_cons_succ])
                refine wpAnyH_take (i := 9) (v := ?v31) rfl (by kernel_rfl) (by kernel_rfl) (by kernel_rfl) (fun _ _ _ h => h) (Or.inl ⟨by rfl, ?hy31⟩) (by assumption) ?rest31
                case hy31 => (intro w hSw; (try dsimp only at hSw); simp only [List.getElem_toArray, List.getElem_cons_zero, List.getElem_cons_succ]; go_simp; (try with_reducible rfl))
                (try simp only [Act.put, List.getElem_toArray, List.getElem_cons_zero, List.getElem_cons_succ, List.setIfInBounds_toArray, List.set_cons_zero, List.set_cons_succ])
                refine wpAnyH_take (i := 10) (v := ?v32) rfl (by kernel_rfl) (by kernel_rfl) (by kernel_rfl) (fun _ _ _ h => h) (Or.inl ⟨by rfl, ?hy32⟩) (by assumption) ?rest32
                case hy32 => (intro w hSw; (try dsimp only at hSw); simp only [List.getElem_toArray, List.getElem_cons_zero, List.getElem_cons_succ]; go_simp; (try with_reducible rfl))
                (try simp only [Act.put, List.getElem_toArray, List.getElem_cons_zero, List.getElem_cons_succ, List.setIfInBounds_toArray, List.set_cons_zero, List.set_cons_succ])
                refine wpAnyH_take (i := 11) (v := ?v33) rfl (by kernel_rfl) (by kernel_rfl) (by kernel_rfl) (fun _ _ _ h => h) (Or.inl ⟨by rfl, ?hy33⟩) (by assumption) ?rest33
                case hy33 => (intro w hSw; (try dsimp only at hSw); simp only [List.getElem_toArray, List.getElem_cons_zero, List.getElem_cons_succ]; go_simp; (try with_reducible rfl))
                (try simp only [Act.put, List.getElem_toArray, List.getElem_cons_zero, List.getElem_cons_succ, List.setIfInBounds_toArray, List.set_cons_zero, List.set_cons_succ])
                refine wpAnyH_take (i := 13) (v := ?v34) rfl (by kernel_rfl) (by kernel_rfl) (by kernel_rfl) (fun _ _ _ h => h) (Or.inl ⟨by rfl, ?hy34⟩) (by assumption) ?rest34
                case hy34 => (intro w hSw; (try dsimp only at hSw); simp only [List.getElem_toArray, List.getElem_cons_zero, List.getElem_cons_succ]; go_simp; (try with_reducible rfl))
                (try simp only [Act.put, List.getElem_toArray, List.getElem_cons_zero, List.getElem_cons_succ, List.setIfInBounds_toArray, List.set_cons_zero, List.set_cons_succ])
                refine wpAnyH_take (i := 14) (v := ?v35) rfl (by kernel_rfl) (by kernel_rfl) (by kernel_rfl) (fun _ _ _ h => h) (Or.inl ⟨by rfl, ?hy35⟩) (by assumption) ?rest35
                case hy35 => (intro w hSw; (try dsimp only at hSw); simp only [List.getElem_toArray, List.getElem_cons_zero, List.getElem_cons_succ]; go_simp; (try with_reducible rfl))
                (try simp only [Act.put, List.getElem_toArray, List.getElem_cons_zero, List.getElem_cons_succ, List.setIfInBounds_toArray, List.set_cons_zero, List.set_cons_succ])
                refine wpAnyH_take (i := 15) (v := ?v36) rfl (by kernel_rfl) (by kernel_rfl) (by kernel_rfl) (fun _ _ _ h => h) (Or.inl ⟨by rfl, ?hy36⟩) (by assumption) ?rest36
                case hy36 => (intro w hSw; (try dsimp only at hSw); simp only [List.getElem_toArray, List.getElem_cons_zero, List.getElem_cons_succ]; go_simp; (try with_reducible rfl))
                (try simp only [Act.put, List.getElem_toArray, List.getElem_cons_zero, List.getElem_cons_succ, List.setIfInBounds_toArray, List.set_cons_zero, List.set_cons_succ])
                refine wpAnyH_take (i := 16) (v := ?v37) rfl (by kernel_rfl) (by kernel_rfl) (by kernel_rfl) (fun _ _ _ h => h) (Or.inl ⟨by rfl, ?hy37⟩) (by assumption) ?rest37
                case hy37 => (intro w hSw; (try dsimp only at hSw); simp only [List.getElem_toArray, List.getElem_cons_zero, List.getElem_cons_succ]; go_simp; (try with_reducible rfl))
                (try simp only [Act.put, List.getElem_toArray, List.getElem_cons_zero, List.getElem_cons_succ, List.setIfInBounds_toArray, List.set_cons_zero, List.set_cons_succ])
                refine wpAnyH_take (i := 17) (v := ?v38) rfl (by kernel_rfl) (by kernel_rfl) (by kernel_rfl) (fun _ _ _ h => h) (Or.inl ⟨by rfl, ?hy38⟩) (by assumption) ?rest38
                case hy38 => (intro w hSw; (try dsimp only at hSw); simp only [List.getElem_toArray, List.getElem_cons_zero, List.getElem_cons_succ]; go_simp; (try with_reducible rfl))
                (try simp only [Act.put, List.getElem_toArray, List.getElem_cons_zero, List.getElem_cons_succ, List.setIfInBounds_toArray, List.set_cons_zero, List.set_cons_succ])
                refine wpAnyH_take (i := 18) (v := ?v39) rfl (by kernel_rfl) (by kernel_rfl) (by kernel_rfl) (fun _ _ _ h => h) (Or.inl ⟨by rfl, ?hy39⟩) (by assumption) ?rest39
                case hy39 => (intro w hSw; (try dsimp only at hSw); simp only [List.getElem_toArray, List.getElem_cons_zero, List.getElem_cons_succ]; go_simp; (try with_reducible rfl))
                (try simp only [Act.put, List.getElem_toArray, List.getElem_cons_zero, List.getElem_cons_succ, List.setIfInBounds_toArray, List.set_cons_zero, List.set_cons_succ])
                refine wpAnyH_take (i := 19) (v := ?v40) rfl (by kernel_rfl) (by kernel_rfl) (by kernel_rfl) (fun _ _ _ h => h) (Or.inl ⟨by rfl, ?hy40⟩) (by assumption) ?rest40
                case hy40 => (intro w hSw; (try dsimp only at hSw); simp only [List.getElem_toArray, List.getElem_cons_zero, List.getElem_cons_succ]; go_simp; (try with_reducible rfl))
                (try simp only [Act.put, List.getElem_toArray, List.getElem_cons_zero, List.getElem_cons_succ, List.setIfInBounds_toArray, List.set_cons_zero, List.set_cons_succ])
                refine wpAnyH_ready (rs := [4, 12]) (by kernel_rfl) (by simp) ?_
                refine AllReadyH.cons rfl (fun K hK => ?_) ?_
                · simp only [List.getElem_toArray, List.getElem_cons_zero, List.getElem_cons_succ]
                  go_simp
                  refine hK.out _ _ ?hS41 (fun hHeld2 => ?rest41)
                  case hS41 => assumption
                  clear hK K
                  (try clear hHeld)
                  have hHeld := hHeld2
                  clear hHeld2
                  (try simp only [Act.put, List.getElem_toArray, List.getElem_cons_zero, List.getElem_cons_succ, List.setIfInBounds_toArray, List.set_cons_zero, List.set_cons_succ])
                  refine wpAnyH_ready (rs := [12]) (by kernel_rfl) (by simp) ?_
                  refine AllReadyH.cons rfl (fun K hK => ?_) ?_
                  · refine pcopy_step (cap := capq) (S := d.S) (by rfl) _ (by rfl) (by rfl) (HRow.out _ (Out.refl 0 0 _).drew) HN1.out.1 HN1.out.2 ?_
                    intro ga8 cap8 w8 ho8 hl8
                    have HL8 : Hid (ListIs w8 W7.heap.size (.slice (some ⟨ga8, 0, none⟩) n cap8) (pgl d.S n)) := hl8
                    have HO8 : Hid (Out 0 0 W7 w8) := (Out.refl 0 0 W7).drew.trans ho8
                    have m1 := HO8.out.cell s1 (.inr (Nat.zero_le _))
                    have m2 := HO8.out.cell t0 (.inr (Nat.zero_le _))
                    have m3 := HO8.out.cell s3 (.inr (Nat.zero_le _))
                    clear hl8 ho8
                    refine hK.out _ _ ?hS42 (fun hHeld2 => ?rest42)
                    case hS42 => exact ⟨m1, m2⟩
                    clear hK K
                    (try clear hHeld)
                    have hHeld := hHeld2
                    clear hHeld2
                    (try simp only [Act.put, List.getElem_toArray, List.getElem_cons_zero, List.getElem_cons_succ, List.setIfInBounds_toArray, List.set_cons_zero, List.set_cons_succ])
                    refine wpAnyH_ready (rs := [20]) (by kernel_rfl) (by simp) ?_
                    refine AllReadyH.cons rfl (fun K hK => ?_) ?_
                    · refine pcopy_step (cap := capq) (S := d.S) (by rfl) _ (by rfl) (by rfl) (HRow.out _ HO8.out) HN1.out.1 HN1.out.2 ?_
                      intro gb9 cap9 w9 ho9 hl9
                      have HL9 := hid_mk hl9
                      have HO89 := hid_mk ho9
                      have HO9 := hid_mk (HO8.out.trans ho9)
                      have u1 := HO9.out.cell s1 (.inr (Nat.zero_le _))
                      have u2 := HO9.out.cell t0 (.inr (Nat.zero_le _))
                      have u3 := HO9.out.cell s3 (.inr (Nat.zero_le _))
                      have u1' := (HO9.out.alloc (.cells #[.slice (some ⟨ga8, 0, none⟩) n cap8, .slice (some ⟨gb9, 0, none⟩) n cap9] 37)).cell s1 (.inr (Nat.zero_le _))
                      have u2' := (HO9.out.alloc (.cells #[.slice (some ⟨ga8, 0, none⟩) n cap8, .slice (some ⟨gb9, 0, none⟩) n cap9] 37)).cell t0 (.inr (Nat.zero_le _))
                      have u3' := (HO9.out.alloc (.cells #[.slice (some ⟨ga8, 0, none⟩) n cap8, .slice (some ⟨gb9, 0, none⟩) n cap9] 37)).cell s3 (.inr (Nat.zero_le _))
                      clear hl9 ho9
                      refine hK.out _ _ ?hS43 (fun hHeld2 => ?rest43)
                      case hS43 => exact ⟨u1, u2⟩
                      clear hK K
                      (try clear hHeld)
                      have hHeld := hHeld2
                      clear hHeld2
                      (try simp only [Act.put, List.getElem_toArray, List.getElem_cons_zero, List.getElem_cons_succ, List.setIfInBounds_toArray, List.set_cons_zero, List.set_cons_succ])
                      refine wpAnyH_ready (rs := [21]) (by kernel_rfl) (by simp) ?_
                      refine AllReadyH.cons rfl (fun K hK => ?_) ?_
                      · simp only [List.getElem_toArray, List.getElem_cons_zero, List.getElem_cons_succ]
                        go_simp
                        refine hK.out _ _ ?hS44 (fun hHeld2 => ?rest44)
                        case hS44 => exact ⟨u1', u2'⟩
                        clear hK K
                        (try clear hHeld)
                        have hHeld := hHeld2
                        clear hHeld2
                        (try simp only [Act.put, List.getElem_toArray, List.getElem_cons_zero, List.getElem_cons_succ, List.setIfInBounds_toArray, List.set_cons_zero, List.set_cons_succ])
                        refine wpAnyH_ready (rs := [22]) (by kernel_rfl) (by simp) ?_
                        refine AllReadyH.cons rfl (fun K hK => ?_) ?_
                        · refine app_step (by rfl) _ _ 56 (by rfl) B 37 i1 (.slice none 0 0) 24 Tryd.underlying56 hi1 hy0 hy1 hy2 rfl (.slice aW Wr.length capW) Wr.length Wr (by rfl) (own_kept HK6.out.oW (HO9.out.alloc _) (Nat.zero_le _)) ⟨w9.heap.size, 0, none⟩ 2 2 [.slice (some ⟨ga8, 0, none⟩) n cap8, .slice (some ⟨gb9, 0, none⟩) n cap9] (by rfl) (by rfl) (two_cells _ _ _ _) (two_one rfl rfl) (by decide) (by unfold maxLen; have := HkL.out; have := Hk1.out; omega) (by have := HkL.out; have := Hk1.out; omega) (by have := HSz.out; have := HO9.out.size; simp; omega) ?_
                          intro gX capX wX ownX grX
                          obtain ⟨hbX, colX, fxX, kfX, lfX, cfX⟩ := were_two HK6.out ⟨(by show (if Wr.length + 0 < L.length then C (Wr.length + 0) else _) = _; rw [if_neg (by have := Hk1.out; omega)]), (by show (if Wr.length + 1 < L.length then C (Wr.length + 1) else _) = _; rw [if_neg (by have := Hk1.out; omega)])⟩ HL6.out HC6.out HO8.out HL8.out HO89.out HL9.out ((Out.refl 0 0 _).alloc _) ownX grX
                          obtain ⟨_, y1, _, y3, _, _, yf⟩ := keep_cells hbX
                          have yf3 := yf 3
                          have y2 : wX.cell? ⟨d.br, 0, none⟩ = some (.slice (some ⟨d.bwr, 0, none⟩) n capq) := by
                            rw [← World.cell?_of_block (w := wX) (a := ⟨d.br, 0, none⟩) (Below.heap_setCell wX ⟨d.b, 3, none⟩ (.slice (some ⟨gX, 0, none⟩) (Wr.length + 2) capX) d.br HNe.out)]
                            exact fxX.cell t0 H67.out.2.2.1
                          obtain ⟨_, z1, _, _, _, _, _⟩ := keep_cells kfX.hb
                          have z2 := fxX.cell t0 H67.out.2.2.1
                          have HKX := hid_mk kfX
                          have HFX := hid_mk (HF6.out.trans fxX)
                          have HLX := hid_mk lfX
                          have HCX := hid_mk cfX
                          clear hbX fxX kfX lfX cfX yf ownX grX
                          refine hK.out _ _ ?hS45 (fun hHeld2 => ?rest45)
                          case hS45 => exact ⟨y1, y2⟩
                          clear hK K
                          (try clear hHeld)
                          have hHeld := hHeld2
                          clear hHeld2
                          (try simp only [Act.put, List.getElem_toArray, List.getElem_cons_zero, List.getElem_cons_succ, List.setIfInBounds_toArray, List.set_cons_zero, List.set_cons_succ])
                          refine wpAnyH_take (i := 23) (v := ?v46) rfl (by kernel_rfl) (by kernel_rfl) (by kernel_rfl) (fun _ _ _ h => h) (Or.inl ⟨by rfl, ?hy46⟩) (by assumption) ?rest46
                          case hy46 => (intro w hSw; (try dsimp only at hSw); simp only [List.getElem_toArray, List.getElem_cons_zero, List.getElem_cons_succ]; go_simp; (try with_reducible rfl))
                          (try simp only [Act.put, List.getElem_toArray, List.getElem_cons_zero, List.getElem_cons_succ, List.setIfInBounds_toArray, List.set_cons_zero, List.set_cons_succ])
                          refine wpAnyH_take (i := 24) (v := ?v47) rfl (by kernel_rfl) (by kernel_rfl) (by kernel_rfl) (fun _ _ _ h => h) (Or.inl ⟨by rfl, ?hy47⟩) (by assumption) ?rest47
                          case hy47 => (intro w hSw; (try dsimp only at hSw); simp only [List.getElem_toArray, List.getElem_cons_zero, List.getElem_cons_succ]; go_simp; (try with_reducible rfl))
                          (try simp only [Act.put, List.getElem_toArray, List.getElem_cons_zero, List.getElem_cons_succ, List.setIfInBounds_toArray, List.set_cons_zero, List.set_cons_succ])
                          refine wpAnyH_ready (rs := [25]) (by kernel_rfl) (by simp) ?_
                          refine AllReadyH.cons rfl (fun K hK => ?_) ?_
                          · simp only [List.getElem_toArray, List.getElem_cons_zero, List.getElem_cons_succ]
                            go_simp
                            refine hK.out _ _ ?hS48 (fun hHeld2 => ?rest48)
                            case hS48 => exact ⟨z1, z2⟩
                            clear hK K
                            (try clear hHeld)
                            have hHeld := hHeld2
                            clear hHeld2
                            (try simp only [Act.put, List.getElem_toArray, List.getElem_cons_zero, List.getElem_cons_succ, List.setIfInBounds_toArray, List.set_cons_zero, List.set_cons_succ])
                            refine wpAnyH_done (by kernel_rfl) ?_ _
                            obtain ⟨W10, hW10⟩ : ∃ W10, wX.setCell ⟨d.b, 3, none⟩ (.slice (some ⟨gX, 0, none⟩) (Wr.length + 2) capX) = W10 := ⟨_, rfl⟩
                            rw [hW10] at HKX HFX HLX ⊢
                            have HMk := hid_mk (mark_any HKX.out HLX.out HCX.out Hk3.out (by have := Hk3.out; have := HnS.out; omega) (by rw [pgl_len]; omega))
                            clear hW10 y1 y2 y3 yf3 z1 z2 hHeld m1 m2 m3 u1 u2 u3 u1' u2' u3' s1 s3 t0
                            go_wp2_with (go_at_call 29; refine HMk.out.mono ?_; rintro e w11 ⟨rfl, hme⟩)
                            go_ret
                            obtain ⟨xS, xM, xLs, xMk, xcol, k1, k2, k3, k4⟩ := hme
                            exact ⟨rfl, _, (Act.quiet HP.out HO1.out).trans (HP1.out.fixed (HFX.out.trans k4) k1 (fun _ => by rw [List.length_append, List.length_append, Hk1.out]; rfl) rfl k2 k3 (look_nums HN.out HU.out Hk2.out Hk3.out Hk4.out HnS.out (by omega))), rfl⟩
                          · exact AllReadyH.nil
                        · exact AllReadyH.nil
                      · exact AllReadyH.nil
                    · exact AllReadyH.nil
                  · exact AllReadyH.nil
                · refine AllReadyH.cons rfl (fun K hK => ?_) ?_
                  · refine pcopy_step (cap := capq) (S := d.S) (by rfl) _ (by rfl) (by rfl) (HRow.out _ (Out.refl 0 0 _).drew) HN1.out.1 HN1.out.2 ?_
                    intro ga8 cap8 w8 ho8 hl8
                    have HL8 : Hid (ListIs w8 W7.heap.size (.slice (some ⟨ga8, 0, none⟩) n cap8) (pgl d.S n)) := hl8
                    have HO8 : Hid (Out 0 0 W7 w8) := (Out.refl 0 0 W7).drew.trans ho8
                    have m1 := HO8.out.cell s1 (.inr (Nat.zero_le _))
                    have m2 := HO8.out.cell t0 (.inr (Nat.zero_le _))
                    have m3 := HO8.out.cell s3 (.inr (Nat.zero_le _))
                    clear hl8 ho8
                    refine hK.out _ _ ?hS49 (fun hHeld2 => ?rest49)
                    case hS49 => exact ⟨m1, m2⟩
                    clear hK K
                    (try clear hHeld)
                    have hHeld := hHeld2
                    clear hHeld2
                    (try simp only [Act.put, List.getElem_toArray, List.getElem_cons_zero, List.getElem_cons_succ, List.setIfInBounds_toArray, List.set_cons_zero, List.set_cons_succ])
                    refine wpAnyH_ready (rs := [4, 20]) (by kernel_rfl) (by simp) ?_
                    refine AllReadyH.cons rfl (fun K hK => ?_) ?_
                    · simp only [List.getElem_toArray, List.getElem_cons_zero, List.getElem_cons_succ]
                      go_simp
                      refine hK.out _ _ ?hS50 (fun hHeld2 => ?rest50)
                      case hS50 => assumption
                      clear hK K
                      (try clear hHeld)
                      have hHeld := hHeld2
                      clear hHeld2
                      (try simp only [Act.put, List.getElem_toArray, List.getElem_cons_zero, List.getElem_cons_succ, List.setIfInBounds_toArray, List.set_cons_zero, List.set_cons_succ])
                      refine wpAnyH_ready (rs := [20]) (by kernel_rfl) (by simp) ?_
                      refine AllReadyH.cons rfl (fun K hK => ?_) ?_
                      · refine pcopy_step (cap := capq) (S := d.S) (by rfl) _ (by rfl) (by rfl) (HRow.out _ HO8.out) HN1.out.1 HN1.out.2 ?_
                        intro gb9 cap9 w9 ho9 hl9
                        have HL9 := hid_mk hl9
                        have HO89 := hid_mk ho9
                        have HO9 := hid_mk (HO8.out.trans ho9)
                        have u1 := HO9.out.cell s1 (.inr (Nat.zero_le _))
                        have u2 := HO9.out.cell t0 (.inr (Nat.zero_le _))
                        have u3 := HO9.out.cell s3 (.inr (Nat.zero_le _))
                        have u1' := (HO9.out.alloc (.cells #[.slice (some ⟨ga8, 0, none⟩) n cap8, .slice (some ⟨gb9, 0, none⟩) n cap9] 37)).cell s1 (.inr (Nat.zero_le _))
                        have u2' := (HO9.out.alloc (.cells #[.slice (some ⟨ga8, 0, none⟩) n cap8, .slice (some ⟨gb9, 0, none⟩) n cap9] 37)).cell t0 (.inr (Nat.zero_le _))
                        have u3' := (HO9.out.alloc (.cells #[.slice (some ⟨ga8, 0, none⟩) n cap8, .slice (some ⟨gb9, 0, none⟩) n cap9] 37)).cell s3 (.inr (Nat.zero_le _))
                        clear hl9 ho9
                        refine hK.out _ _ ?hS51 (fun hHeld2 => ?rest51)
                        case hS51 => exact ⟨u1, u2⟩
                        clear hK K
                        (try clear hHeld)
                        have hHeld := hHeld2
                        clear hHeld2
                        (try simp only [Act.put, List.getElem_toArray, List.getElem_cons_zero, List.getElem_cons_succ, List.setIfInBounds_toArray, List.set_cons_zero, List.set_cons_succ])
                        refine wpAnyH_ready (rs := [21]) (by kernel_rfl) (by simp) ?_
                        refine AllReadyH.cons rfl (fun K hK => ?_) ?_
                        · simp only [List.getElem_toArray, List.getElem_cons_zero, List.getElem_cons_succ]
                          go_simp
                          refine hK.out _ _ ?hS52 (fun hHeld2 => ?rest52)
                          case hS52 => exact ⟨u1', u2'⟩
                          clear hK K
                          (try clear hHeld)
                          have hHeld := hHeld2
                          clear hHeld2
                          (try simp only [Act.put, List.getElem_toArray, List.getElem_cons_zero, List.getElem_cons_succ, List.setIfInBounds_toArray, List.set_cons_zero, List.set_cons_succ])
                          refine wpAnyH_ready (rs := [22]) (by kernel_rfl) (by simp) ?_
                          refine AllReadyH.cons rfl (fun K hK => ?_) ?_
                          · refine app_step (by rfl) _ _ 56 (by rfl) B 37 i1 (.slice none 0 0) 24 Tryd.underlying56 hi1 hy0 hy1 hy2 rfl (.slice aW Wr.length capW) Wr.length Wr (by rfl) (own_kept HK6.out.oW (HO9.out.alloc _) (Nat.zero_le _)) ⟨w9.heap.size, 0, none⟩ 2 2 [.slice (some ⟨ga8, 0, none⟩) n cap8, .slice (some ⟨gb9, 0, none⟩) n cap9] (by rfl) (by rfl) (two_cells _ _ _ _) (two_one rfl rfl) (by decide) (by unfold maxLen; have := HkL.out; have := Hk1.out; omega) (by have := HkL.out; have := Hk1.out; omega) (by have := HSz.out; have := HO9.out.size; simp; omega) ?_
                            intro gX capX wX ownX grX
                            obtain ⟨hbX, colX, fxX, kfX, lfX, cfX⟩ := were_two HK6.out ⟨(by show (if Wr.length + 0 < L.length then C (Wr.length + 0) else _) = _; rw [if_neg (by have := Hk1.out; omega)]), (by show (if Wr.length + 1 < L.length then C (Wr.length + 1) else _) = _; rw [if_neg (by have := Hk1.out; omega)])⟩ HL6.out HC6.out HO8.out HL8.out HO89.out HL9.out ((Out.refl 0 0 _).alloc _) ownX grX
                            obtain ⟨_, y1, _, y3, _, _, yf⟩ := keep_cells hbX
                            have yf3 := yf 3
                            have y2 : wX.cell? ⟨d.br, 0, none⟩ = some (.slice (some ⟨d.bwr, 0, none⟩) n capq) := by
                              rw [← World.cell?_of_block (w := wX) (a := ⟨d.br, 0, none⟩) (Below.heap_setCell wX ⟨d.b, 3, none⟩ (.slice (some ⟨gX, 0, none⟩) (Wr.length + 2) capX) d.br HNe.out)]
                              exact fxX.cell t0 H67.out.2.2.1
                            obtain ⟨_, z1, _, _, _, _, _⟩ := keep_cells kfX.hb
                            have z2 := fxX.cell t0 H67.out.2.2.1
                            have HKX := hid_mk kfX
                            have HFX := hid_mk (HF6.out.trans fxX)
                            have HLX := hid_mk lfX
                            have HCX := hid_mk cfX
                            clear hbX fxX kfX lfX cfX yf ownX grX
                            refine hK.out _ _ ?hS53 (fun hHeld2 => ?rest53)
                            case hS53 => exact ⟨y1, y2⟩
                            clear hK K
                            (try clear hHeld)
                            have hHeld := hHeld2
                            clear hHeld2
                            (try simp only [Act.put, List.getElem_toArray, List.getElem_cons_zero, List.getElem_cons_succ, List.setIfInBounds_toArray, List.set_cons_zero, List.set_cons_succ])
                            refine wpAnyH_take (i := 23) (v := ?v54) rfl (by kernel_rfl) (by kernel_rfl) (by kernel_rfl) (fun _ _ _ h => h) (Or.inl ⟨by rfl, ?hy54⟩) (by assumption) ?rest54
                            case hy54 => (intro w hSw; (try dsimp only at hSw); simp only [List.getElem_toArray, List.getElem_cons_zero, List.getElem_cons_succ]; go_simp; (try with_reducible rfl))
                            (try simp only [Act.put, List.getElem_toArray, List.getElem_cons_zero, List.getElem_cons_succ, List.setIfInBounds_toArray, List.set_cons_zero, List.set_cons_succ])
                            refine wpAnyH_take (i := 24) (v := ?v55) rfl (by kernel_rfl) (by kernel_rfl) (by kernel_rfl) (fun _ _ _ h => h) (Or.inl ⟨by rfl, ?hy55⟩) (by assumption) ?rest55
                            case hy55 => (intro w hSw; (try dsimp only at hSw); simp only [List.getElem_toArray, List.getElem_cons_zero, List.getElem_cons_succ]; go_simp; (try with_reducible rfl))
                            (try simp only [Act.put, List.getElem_toArray, List.getElem_cons_zero, List.getElem_cons_succ, List.setIfInBounds_toArray, List.set_cons_zero, List.set_cons_succ])
                            refine wpAnyH_ready (rs := [25]) (by kernel_rfl) (by simp) ?_
                            refine AllReadyH.cons rfl (fun K hK => ?_) ?_
                            · simp only [List.getElem_toArray, List.getElem_cons_zero, List.getElem_cons_succ]
                              go_simp
                              refine hK.out _ _ ?hS56 (fun hHeld2 => ?rest56)
                              case hS56 => exact ⟨z1, z2⟩
                              clear hK K
                              (try clear hHeld)
                              have hHeld := hHeld2
                              clear hHeld2
                              (try simp only [Act.put, List.getElem_toArray, List.getElem_cons_zero, List.getElem_cons_succ, List.setIfInBounds_toArray, List.set_cons_zero, List.set_cons_succ])
                              refine wpAnyH_done (by kernel_rfl) ?_ _
                              obtain ⟨W10, hW10⟩ : ∃ W10, wX.setCell ⟨d.b, 3, none⟩ (.slice (some ⟨gX, 0, none⟩) (Wr.length + 2) capX) = W10 := ⟨_, rfl⟩
                              rw [hW10] at HKX HFX HLX ⊢
                              have HMk := hid_mk (mark_any HKX.out HLX.out HCX.out Hk3.out (by have := Hk3.out; have := HnS.out; omega) (by rw [pgl_len]; omega))
                              clear hW10 y1 y2 y3 yf3 z1 z2 hHeld m1 m2 m3 u1 u2 u3 u1' u2' u3' s1 s3 t0
                              go_wp2_with (go_at_call 29; refine HMk.out.mono ?_; rintro e w11 ⟨rfl, hme⟩)
                              go_ret
                              obtain ⟨xS, xM, xLs, xMk, xcol, k1, k2, k3, k4⟩ := hme
                              exact ⟨rfl, _, (Act.quiet HP.out HO1.out).trans (HP1.out.fixed (HFX.out.trans k4) k1 (fun _ => by rw [List.length_append, List.length_append, Hk1.out]; rfl) rfl k2 k3 (look_nums HN.out HU.out Hk2.out Hk3.out Hk4.out HnS.out (by omega))), rfl⟩
                            · exact AllReadyH.nil
                          · exact AllReadyH.nil
                        · exact AllReadyH.nil
                      · exact AllReadyH.nil
                    · refine AllReadyH.cons rfl (fun K hK => ?_) ?_
                      · refine pcopy_step (cap := capq) (S := d.S) (by rfl) _ (by rfl) (by rfl) (HRow.out _ HO8.out) HN1.out.1 HN1.out.2 ?_
                        intro gb9 cap9 w9 ho9 hl9
                        have HL9 := hid_mk hl9
                        have HO89 := hid_mk ho9
                        have HO9 := hid_mk (HO8.out.trans ho9)
                        have u1 := HO9.out.cell s1 (.inr (Nat.zero_le _))
                        have u2 := HO9.out.cell t0 (.inr (Nat.zero_le _))
                        have u3 := HO9.out.cell s3 (.inr (Nat.zero_le _))
                        have u1' := (HO9.out.alloc (.cells #[.slice (some ⟨ga8, 0, none⟩) n cap8, .slice (some ⟨gb9, 0, none⟩) n cap9] 37)).cell s1 (.inr (Nat.zero_le _))
                        have u2' := (HO9.out.alloc (.cells #[.slice (some ⟨ga8, 0, none⟩) n cap8, .slice (some ⟨gb9, 0, none⟩) n cap9] 37)).cell t0 (.inr (Nat.zero_le _))
                        have u3' := (HO9.out.alloc (.cells #[.slice (some ⟨ga8, 0, none⟩) n cap8, .slice (some ⟨gb9, 0, none⟩) n cap9] 37)).cell s3 (.inr (Nat.zero_le _))
                        clear hl9 ho9
                        refine hK.out _ _ ?hS57 (fun hHeld2 => ?rest57)
                        case hS57 => exact ⟨u1, u2⟩
                        clear hK K
                        (try clear hHeld)
                        have hHeld := hHeld2
                        clear hHeld2
                        (try simp only [Act.put, List.getElem_toArray, List.getElem_cons_zero, List.getElem_cons_succ, List.setIfInBounds_toArray, List.set_cons_zero, List.set_cons_succ])
                        refine wpAnyH_ready (rs := [4, 21]) (by kernel_rfl) (by simp) ?_
                        refine AllReadyH.cons rfl (fun K hK => ?_) ?_
                        · simp only [List.getElem_toArray, List.getElem_cons_zero, List.getElem_cons_succ]
                          go_simp
                          refine hK.out _ _ ?hS58 (fun hHeld2 => ?rest58)
                          case hS58 => assumption
                          clear hK K
                          (try clear hHeld)
                          have hHeld := hHeld2
                          clear hHeld2
                          (try simp only [Act.put, List.getElem_toArray, List.getElem_cons_zero, List.getElem_cons_succ, List.setIfInBounds_toArray, List.set_cons_zero, List.set_cons_succ])
                          refine wpAnyH_ready (rs := [21]) (by kernel_rfl) (by simp) ?_
                          refine AllReadyH.cons rfl (fun K hK => ?_) ?_
                          · simp only [List.getElem_toArray, List.getElem_cons_zero, List.getElem_cons_succ]
                            go_simp
                            refine hK.out _ _ ?hS59 (fun hHeld2 => ?rest59)
                            case hS59 => exact ⟨u1', u2'⟩
                            clear hK K
                            (try clear hHeld)
                            have hHeld := hHeld2
                            clear hHeld2
                            (try simp only [Act.put, List.getElem_toArray, List.getElem_cons_zero, List.getElem_cons_succ, List.setIfInBounds_toArray, List.set_cons_zero, List.set_cons_succ])
                            refine wpAnyH_ready (rs := [22]) (by kernel_rfl) (by simp) ?_
                            refine AllReadyH.cons rfl (fun K hK => ?_) ?_
                            · refine app_step (by rfl) _ _ 56 (by rfl) B 37 i1 (.slice none 0 0) 24 Tryd.underlying56 hi1 hy0 hy1 hy2 rfl (.slice aW Wr.length capW) Wr.length Wr (by rfl) (own_kept HK6.out.oW (HO9.out.alloc _) (Nat.zero_le _)) ⟨w9.heap.size, 0, none⟩ 2 2 [.slice (some ⟨ga8, 0, none⟩) n cap8, .slice (some ⟨gb9, 0, none⟩) n cap9] (by rfl) (by rfl) (two_cells _ _ _ _) (two_one rfl rfl) (by decide) (by unfold maxLen; have := HkL.out; have := Hk1.out; omega) (by have := HkL.out; have := Hk1.out; omega) (by have := HSz.out; have := HO9.out.size; simp; omega) ?_
                              intro gX capX wX ownX grX
                              obtain ⟨hbX, colX, fxX, kfX, lfX, cfX⟩ := were_two HK6.out ⟨(by show (if Wr.length + 0 < L.length then C (Wr.length + 0) else _) = _; rw [if_neg (by have := Hk1.out; omega)]), (by show (if Wr.length + 1 < L.length then C (Wr.length + 1) else _) = _; rw [if_neg (by have := Hk1.out; omega)])⟩ HL6.out HC6.out HO8.out HL8.out HO89.out HL9.out ((Out.refl 0 0 _).alloc _) ownX grX
                              obtain ⟨_, y1, _, y3, _, _, yf⟩ := keep_cells hbX
                              have yf3 := yf 3
                              have y2 : wX.cell? ⟨d.br, 0, none⟩ = some (.slice (some ⟨d.bwr, 0, none⟩) n capq) := by
                                rw [← World.cell?_of_block (w := wX) (a := ⟨d.br, 0, none⟩) (Below.heap_setCell wX ⟨d.b, 3, none⟩ (.slice (some ⟨gX, 0, none⟩) (Wr.length + 2) capX) d.br HNe.out)]
                                exact fxX.cell t0 H67.out.2.2.1
                              obtain ⟨_, z1, _, _, _, _, _⟩ := keep_cells kfX.hb
                              have z2 := fxX.cell t0 H67.out.2.2.1
                              have HKX := hid_mk kfX
                              have HFX := hid_mk (HF6.out.trans fxX)
                              have HLX := hid_mk lfX
                              have HCX := hid_mk cfX
                              clear hbX fxX kfX lfX cfX yf ownX grX
                              refine hK.out _ _ ?hS60 (fun hHeld2 => ?rest60)
                              case hS60 => exact ⟨y1, y2⟩
                              clear hK K
                              (try clear hHeld)
                              have hHeld := hHeld2
                              clear hHeld2
                              (try simp only [Act.put, List.getElem_toArray, List.getElem_cons_zero, List.getElem_cons_succ, List.setIfInBounds_toArray, List.set_cons_zero, List.set_cons_succ])
                              refine wpAnyH_take (i := 23) (v := ?v61) rfl (by kernel_rfl) (by kernel_rfl) (by kernel_rfl) (fun _ _ _ h => h) (Or.inl ⟨by rfl, ?hy61⟩) (by assumption) ?rest61
                              case hy61 => (intro w hSw; (try dsimp only at hSw); simp only [List.getElem_toArray, List.getElem_cons_zero, List.getElem_cons_succ]; go_simp; (try with_reducible rfl))
                              (try simp only [Act.put, List.getElem_toArray, List.getElem_cons_zero, List.getElem_cons_succ, List.setIfInBounds_toArray, List.set_cons_zero, List.set_cons_succ])
                              refine wpAnyH_take (i := 24) (v := ?v62) rfl (by kernel_rfl) (by kernel_rfl) (by kernel_rfl) (fun _ _ _ h => h) (Or.inl ⟨by rfl, ?hy62⟩) (by assumption) ?rest62
                              case hy62 => (intro w hSw; (try dsimp only at hSw); simp only [List.getElem_toArray, List.getElem_cons_zero, List.getElem_cons_succ]; go_simp; (try with_reducible rfl))
                              (try simp only [Act.put, List.getElem_toArray, List.getElem_cons_zero, List.getElem_cons_succ, List.setIfInBounds_toArray, List.set_cons_zero, List.set_cons_succ])
                              refine wpAnyH_ready (rs := [25]) (by kernel_rfl) (by simp) ?_
                              refine AllReadyH.cons rfl (fun K hK => ?_) ?_
                              · simp only [List.getElem_toArray, List.getElem_cons_zero, List.getElem_cons_succ]
                                go_simp
                                refine hK.out _ _ ?hS63 (fun hHeld2 => ?rest63)
                                case hS63 => exact ⟨z1, z2⟩
                                clear hK K
                                (try clear hHeld)
                                have hHeld := hHeld2
                                clear hHeld2
                                (try simp only [Act.put, List.getElem_toArray, List.getElem_cons_zero, List.getElem_cons_succ, List.setIfInBounds_toArray, List.set_cons_zero, List.set_cons_succ])
                                refine wpAnyH_done (by kernel_rfl) ?_ _
                                obtain ⟨W10, hW10⟩ : ∃ W10, wX.setCell ⟨d.b, 3, none⟩ (.slice (some ⟨gX, 0, none⟩) (Wr.length + 2) capX) = W10 := ⟨_, rfl⟩
                                rw [hW10] at HKX HFX HLX ⊢
                                have HMk := hid_mk (mark_any HKX.out HLX.out HCX.out Hk3.out (by have := Hk3.out; have := HnS.out; omega) (by rw [pgl_len]; omega))
                                clear hW10 y1 y2 y3 yf3 z1 z2 hHeld m1 m2 m3 u1 u2 u3 u1' u2' u3' s1 s3 t0
                                go_wp2_with (go_at_call 29; refine HMk.out.mono ?_; rintro e w11 ⟨rfl, hme⟩)
                                go_ret
                                obtain ⟨xS, xM, xLs, xMk, xcol, k1, k2, k3, k4⟩ := hme
                                exact ⟨rfl, _, (Act.quiet HP.out HO1.out).trans (HP1.out.fixed (HFX.out.trans k4) k1 (fun _ => by rw [List.length_append, List.length_append, Hk1.out]; rfl) rfl k2 k3 (look_nums HN.out HU.out Hk2.out Hk3.out Hk4.out HnS.out (by omega))), rfl⟩
                              · exact AllReadyH.nil
                            · exact AllReadyH.nil
                          · exact AllReadyH.nil
                        · refine AllReadyH.cons rfl (fun K hK => ?_) ?_
                          · simp only [List.getElem_toArray, List.getElem_cons_zero, List.getElem_cons_succ]
                            go_simp
                            refine hK.out _ _ ?hS64 (fun hHeld2 => ?rest64)
                            case hS64 => exact ⟨u1', u2'⟩
                            clear hK K
                            (try clear hHeld)
                            have hHeld := hHeld2
                            clear hHeld2
                            (try simp only [Act.put, List.getElem_toArray, List.getElem_cons_zero, List.getElem_cons_succ, List.setIfInBounds_toArray, List.set_cons_zero, List.set_cons_succ])
                            refine wpAnyH_ready (rs := [4]) (by kernel_rfl) (by simp) ?_
                            refine AllReadyH.cons rfl (fun K hK => ?_) ?_
                            · simp only [List.getElem_toArray, List.getElem_cons_zero, List.getElem_cons_succ]
                              go_simp
                              refine hK.out _ _ ?hS65 (fun hHeld2 => ?rest65)
                              case hS65 => assumption
                              clear hK K
                              (try clear hHeld)
                              have hHeld := hHeld2
                              clear hHeld2
                              (try simp only [Act.put, List.getElem_toArray, List.getElem_cons_zero, List.getElem_cons_succ, List.setIfInBounds_toArray, List.set_cons_zero, List.set_cons_succ])
                              refine wpAnyH_ready (rs := [22]) (by kernel_rfl) (by simp) ?_
                              refine AllReadyH.cons rfl (fun K hK => ?_) ?_
                              · refine app_step (by rfl) _ _ 56 (by rfl) B 37 i1 (.slice none 0 0) 24 Tryd.underlying56 hi1 hy0 hy1 hy2 rfl (.slice aW Wr.length capW) Wr.length Wr (by rfl) (own_kept HK6.out.oW (HO9.out.alloc _) (Nat.zero_le _)) ⟨w9.heap.size, 0, none⟩ 2 2 [.slice (some ⟨ga8, 0, none⟩) n cap8, .slice (some ⟨gb9, 0, none⟩) n cap9] (by rfl) (by rfl) (two_cells _ _ _ _) (two_one rfl rfl) (by decide) (by unfold maxLen; have := HkL.out; have := Hk1.out; omega) (by have := HkL.out; have := Hk1.out; omega) (by have := HSz.out; have := HO9.out.size; simp; omega) ?_
                                intro gX capX wX ownX grX
                                obtain ⟨hbX, colX, fxX, kfX, lfX, cfX⟩ := were_two HK6.out ⟨(by show (if Wr.length + 0 < L.length then C (Wr.length + 0) else _) = _; rw [if_neg (by have := Hk1.out; omega)]), (by show (if Wr.length + 1 < L.length then C (Wr.length + 1) else _) = _; rw [if_neg (by have := Hk1.out; omega)])⟩ HL6.out HC6.out HO8.out HL8.out HO89.out HL9.out ((Out.refl 0 0 _).alloc _) ownX grX
                                obtain ⟨_, y1, _, y3, _, _, yf⟩ := keep_cells hbX
                                have yf3 := yf 3
                                have y2 : wX.cell? ⟨d.br, 0, none⟩ = some (.slice (some ⟨d.bwr, 0, none⟩) n capq) := by
                                  rw [← World.cell?_of_block (w := wX) (a := ⟨d.br, 0, none⟩) (Below.heap_setCell wX ⟨d.b, 3, none⟩ (.slice (some ⟨gX, 0, none⟩) (Wr.length + 2) capX) d.br HNe.out)]
                                  exact fxX.cell t0 H67.out.2.2.1
                                obtain ⟨_, z1, _, _, _, _, _⟩ := keep_cells kfX.hb
                                have z2 := fxX.cell t0 H67.out.2.2.1
                                have HKX := hid_mk kfX
                                have HFX := hid_mk (HF6.out.trans fxX)
                                have HLX := hid_mk lfX
                                have HCX := hid_mk cfX
                                clear hbX fxX kfX lfX cfX yf ownX grX
                                refine hK.out _ _ ?hS66 (fun hHeld2 => ?rest66)
                                case hS66 => exact ⟨y1, y2⟩
                                clear hK K
                                (try clear hHeld)
                                have hHeld := hHeld2
                                clear hHeld2
                                (try simp only [Act.put, List.getElem_toArray, List.getElem_cons_zero, List.getElem_cons_succ, List.setIfInBounds_toArray, List.set_cons_zero, List.set_cons_succ])
                                refine wpAnyH_take (i := 23) (v := ?v67) rfl (by kernel_rfl) (by kernel_rfl) (by kernel_rfl) (fun _ _ _ h => h) (Or.inl ⟨by rfl, ?hy67⟩) (by assumption) ?rest67
                                case hy67 => (intro w hSw; (try dsimp only at hSw); simp only [List.getElem_toArray, List.getElem_cons_zero, List.getElem_cons_succ]; go_simp; (try with_reducible rfl))
                                (try simp only [Act.put, List.getElem_toArray, List.getElem_cons_zero, List.getElem_cons_succ, List.setIfInBounds_toArray, List.set_cons_zero, List.set_cons_succ])
                                refine wpAnyH_take (i := 24) (v := ?v68) rfl (by kernel_rfl) (by kernel_rfl) (by kernel_rfl) (fun _ _ _ h => h) (Or.inl ⟨by rfl, ?hy68⟩) (by assumption) ?rest68
                                case hy68 => (intro w hSw; (try dsimp only at hSw); simp only [List.getElem_toArray, List.getElem_cons_zero, List.getElem_cons_succ]; go_simp; (try with_reducible rfl))
                                (try simp only [Act.put, List.getElem_toArray, List.getElem_cons_zero, List.getElem_cons_succ, List.setIfInBounds_toArray, List.set_cons_zero, List.set_cons_succ])
                                refine wpAnyH_ready (rs := [25]) (by kernel_rfl) (by simp) ?_
                                refine AllReadyH.cons rfl (fun K hK => ?_) ?_
                                · simp only [List.getElem_toArray, List.getElem_cons_zero, List.getElem_cons_succ]
                                  go_simp
                                  refine hK.out _ _ ?hS69 (fun hHeld2 => ?rest69)
                                  case hS69 => exact ⟨z1, z2⟩
                                  clear hK K
                                  (try clear hHeld)
                                  have hHeld := hHeld2
                                  clear hHeld2
                                  (try simp only [Act.put, List.getElem_toArray, List.getElem_cons_zero, List.getElem_cons_succ, List.setIfInBounds_toArray, List.set_cons_zero, List.set_cons_succ])
                                  refine wpAnyH_done (by kernel_rfl) ?_ _
                                  obtain ⟨W10, hW10⟩ : ∃ W10, wX.setCell ⟨d.b, 3, none⟩ (.slice (some ⟨gX, 0, none⟩) (Wr.length + 2) capX) = W10 := ⟨_, rfl⟩
                                  rw [hW10] at HKX HFX HLX ⊢
                                  have HMk := hid_mk (mark_any HKX.out HLX.out HCX.out Hk3.out (by have := Hk3.out; have := HnS.out; omega) (by rw [pgl_len]; omega))
                                  clear hW10 y1 y2 y3 yf3 z1 z2 hHeld m1 m2 m3 u1 u2 u3 u1' u2' u3' s1 s3 t0
                                  go_wp2_with (go_at_call 29; refine HMk.out.mono ?_; rintro e w11 ⟨rfl, hme⟩)
                                  go_ret
                                  obtain ⟨xS, xM, xLs, xMk, xcol, k1, k2, k3, k4⟩ := hme
                                  exact ⟨rfl, _, (Act.quiet HP.out HO1.out).trans (HP1.out.fixed (HFX.out.trans k4) k1 (fun _ => by rw [List.length_append, List.length_append, Hk1.out]; rfl) rfl k2 k3 (look_nums HN.out HU.out Hk2.out Hk3.out Hk4.out HnS.out (by omega))), rfl⟩
                                · exact AllReadyH.nil
                              · exact AllReadyH.nil
                            · exact AllReadyH.nil
                          · exact AllReadyH.nil
                      · exact AllReadyH.nil
                  · exact AllReadyH.nil
              · exact AllReadyH.nil
            · exact AllReadyH.nil
          · exact AllReadyH.nil
        · exact AllReadyH.nil
      · exact AllReadyH.nil
    · refine AllReadyH.cons rfl (fun K hK => ?_) ?_
      · simp only [List.getElem_toArray, List.getElem_cons_zero, List.getElem_cons_succ]
        go_simp
        refine (HA.out _ ?hw70).mono ?_
        (case hw70 => exact HOa.out.drew)
        rintro e w4 ⟨ga, capa, rfl, hl4, ho4⟩
        have HL4 : Hid (ListIs w4 w3.heap.size (.slice (some ⟨ga, 0, none⟩) n capa) (pgl d.S n)) := hl4
        have HO4 : Hid (Out 0 0 w3 w4) := (Out.refl 0 0 w3).drew.trans ho4
        have f0 := HO4.out.cell e0 (.inr (Nat.zero_le _))
        have f2 := HO4.out.cell e2 (.inr (Nat.zero_le _))
        clear hl4 ho4
        go_wp2_with fail
        refine hK.out _ _ ?hS70 (fun hHeld2 => ?rest70)
        case hS70 => exact f0
        clear hK K
        (try clear hHeld)
        have hHeld := hHeld2
        clear hHeld2
        (try simp only [Act.put, List.getElem_toArray, List.getElem_cons_zero, List.getElem_cons_succ, List.setIfInBounds_toArray, List.set_cons_zero, List.set_cons_succ])
        refine wpAnyH_ready (rs := [4, 14]) (by kernel_rfl) (by simp) ?_
        refine AllReadyH.cons rfl (fun K hK => ?_) ?_
        · simp only [List.getElem_toArray, List.getElem_cons_zero, List.getElem_cons_succ]
          go_simp
          refine hK.out _ _ ?hS71 (fun hHeld2 => ?rest71)
          case hS71 => assumption
          clear hK K
          (try clear hHeld)
          have hHeld := hHeld2
          clear hHeld2
          (try simp only [Act.put, List.getElem_toArray, List.getElem_cons_zero, List.getElem_cons_succ, List.setIfInBounds_toArray, List.set_cons_zero, List.set_cons_succ])
          refine wpAnyH_ready (rs := [14]) (by kernel_rfl) (by simp) ?_
          refine AllReadyH.cons rfl (fun K hK => ?_) ?_
          · simp only [List.getElem_toArray, List.getElem_cons_zero, List.getElem_cons_succ]
            go_simp
            refine (HA.out _ ?hw72).mono ?_
            (case hw72 => exact HOa.out.trans HO4.out)
            rintro e w5 ⟨gb, capb, rfl, hl5, ho5⟩
            have HL5 := hid_mk hl5
            have HO45 := hid_mk ho5
            have HO5 := hid_mk (HO4.out.trans ho5)
            have k0 := HO5.out.cell e0 (.inr (Nat.zero_le _))
            have k2 := HO5.out.cell e2 (.inr (Nat.zero_le _))
            have k0' := (HO5.out.alloc (.cells #[.slice (some ⟨ga, 0, none⟩) n capa, .slice (some ⟨gb, 0, none⟩) n capb] 37)).cell e0 (.inr (Nat.zero_le _))
            have k2' := (HO5.out.alloc (.cells #[.slice (some ⟨ga, 0, none⟩) n capa, .slice (some ⟨gb, 0, none⟩) n capb] 37)).cell e2 (.inr (Nat.zero_le _))
            clear hl5 ho5
            go_wp2_with fail
            refine hK.out _ _ ?hS72 (fun hHeld2 => ?rest72)
            case hS72 => exact k0
            clear hK K
            (try clear hHeld)
            have hHeld := hHeld2
            clear hHeld2
            (try simp only [Act.put, List.getElem_toArray, List.getElem_cons_zero, List.getElem_cons_succ, List.setIfInBounds_toArray, List.set_cons_zero, List.set_cons_succ])
            refine wpAnyH_ready (rs := [15]) (by kernel_rfl) (by simp) ?_
            refine AllReadyH.cons rfl (fun K hK => ?_) ?_
            · simp only [List.getElem_toArray, List.getElem_cons_zero, List.getElem_cons_succ]
              go_simp
              refine hK.out _ _ ?hS73 (fun hHeld2 => ?rest73)
              case hS73 => exact k0'
              clear hK K
              (try clear hHeld)
              have hHeld := hHeld2
              clear hHeld2
              (try simp only [Act.put, List.getElem_toArray, List.getElem_cons_zero, List.getElem_cons_succ, List.setIfInBounds_toArray, List.set_cons_zero, List.set_cons_succ])
              refine wpAnyH_ready (rs := [16]) (by kernel_rfl) (by simp) ?_
              refine AllReadyH.cons rfl (fun K hK => ?_) ?_
              · refine app_step (by rfl) _ _ 56 (by rfl) B 37 i1 (.slice none 0 0) 24 Tryd.underlying56 hi1 hy0 hy1 hy2 rfl (.slice aL L.length capL) L.length L (by rfl) (own_kept HK.out.oL ((HOa.out.trans HO5.out).alloc _) (Nat.zero_le _)) ⟨w5.heap.size, 0, none⟩ 2 2 [.slice (some ⟨ga, 0, none⟩) n capa, .slice (some ⟨gb, 0, none⟩) n capb] (by rfl) (by rfl) (two_cells _ _ _ _) (two_one rfl rfl) (by decide) (by unfold maxLen; have := HkL.out; omega) (by have := HkL.out; omega) (by have := HB.out; have := HOa.out.size; have := HO5.out.size; simp; omega) ?_
                intro g6 cap6 w6 own6 gr6
                obtain ⟨hb6, col6, fx6, kf6, lf6, cf6⟩ := left_two HK.out Hk1.out (by rw [pgl_len]; omega) HO2.out HL2.out (HO3.out.trans HO4.out) (own_mono HL4.out HO3.out.size) HO45.out HL5.out ((Out.refl 0 0 _).alloc _) own6 gr6
                obtain ⟨q0, _, q2, _, _, _, qf⟩ := keep_cells hb6
                have qf2 := qf 2
                obtain ⟨s0, s1, _, s3, _, _, _⟩ := keep_cells kf6.hb
                have HK6 := hid_mk kf6
                have HF6 := hid_mk fx6
                have HL6 := hid_mk lf6
                have HC6 := hid_mk cf6
                clear hb6 fx6 kf6 lf6 cf6 qf own6 gr6
                refine hK.out _ _ ?hS74 (fun hHeld2 => ?rest74)
                case hS74 => exact q0
                clear hK K
                (try clear hHeld)
                have hHeld := hHeld2
                clear hHeld2
                (try simp only [Act.put, List.getElem_toArray, List.getElem_cons_zero, List.getElem_cons_succ, List.setIfInBounds_toArray, List.set_cons_zero, List.set_cons_succ])
                refine wpAnyH_take (i := 17) (v := ?v75) rfl (by kernel_rfl) (by kernel_rfl) (by kernel_rfl) (fun _ _ _ h => h) (Or.inl ⟨by rfl, ?hy75⟩) (by assumption) ?rest75
                case hy75 => (intro w hSw; (try dsimp only at hSw); simp only [List.getElem_toArray, List.getElem_cons_zero, List.getElem_cons_succ]; go_simp; (try with_reducible rfl))
                (try simp only [Act.put, List.getElem_toArray, List.getElem_cons_zero, List.getElem_cons_succ, List.setIfInBounds_toArray, List.set_cons_zero, List.set_cons_succ])
                refine wpAnyH_take (i := 18) (v := ?v76) rfl (by kernel_rfl) (by kernel_rfl) (by kernel_rfl) (fun _ _ _ h => h) (Or.inl ⟨by rfl, ?hy76⟩) (by assumption) ?rest76
                case hy76 => (intro w hSw; (try dsimp only at hSw); simp only [List.getElem_toArray, List.getElem_cons_zero, List.getElem_cons_succ]; go_simp; (try with_reducible rfl))
                (try simp only [Act.put, List.getElem_toArray, List.getElem_cons_zero, List.getElem_cons_succ, List.setIfInBounds_toArray, List.set_cons_zero, List.set_cons_succ])
                refine wpAnyH_ready (rs := [19]) (by kernel_rfl) (by simp) ?_
                refine AllReadyH.cons rfl (fun K hK => ?_) ?_
                · simp only [List.getElem_toArray, List.getElem_cons_zero, List.getElem_cons_succ]
                  go_simp
                  refine hK.out _ _ ?hS77 (fun hHeld2 => ?rest77)
                  case hS77 => exact s0
                  clear hK K
                  (try clear hHeld)
                  have hHeld := hHeld2
                  clear hHeld2
                  (try simp only [Act.put, List.getElem_toArray, List.getElem_cons_zero, List.getElem_cons_succ, List.setIfInBounds_toArray, List.set_cons_zero, List.set_cons_succ])
                  refine wpAnyH_done (by kernel_rfl) ?_ _
                  obtain ⟨W7, hW7⟩ : ∃ W7, w6.setCell ⟨d.b, 2, none⟩ (.slice (some ⟨g6, 0, none⟩) (L.length + 2) cap6) = W7 := ⟨_, rfl⟩
                  rw [hW7] at HK6 HF6 HL6 s0 s1 s3 ⊢
                  have HTr := hid_mk (HF6.out.table HP1.out.2.2.2.1 HP1.out.2.2.2.2.1.2.2.1 HP1.out.2.2.2.2.1.2.2.2)
                  obtain ⟨capq, t0, _⟩ := HTr.out.cell
                  rw [Hn.out] at t0 HTr
                  have HSz : Hid (B ≤ W7.heap.size) := HK6.out.hB
                  clear hW7 q0 q2 qf2 s0 hHeld e0 e2 f0 f2 k0 k2 k0' k2'
                  go_wp2_with fail
                  have HRow : Hid (∀ w', Out 0 0 W7 w' → PRow w' d.bwr n d.S) := fun w' o => (HTr.out.quiet o).row
                  have HN1 : Hid (1 ≤ n ∧ n ≤ 4096) := ⟨HTr.out.nums.1, HTr.out.nums.2.1⟩
                  have HNe : Hid (d.br ≠ d.b) := fun e => by have h0 := HP1.out.col0.1; rw [← e, HP1.out.2.2.2.2.1.2.2.1] at h0; cases h0
                  have H67 : Hid (col6 d.bt = 7 ∧ col6 d.bwt = 7 ∧ col6 d.br = 7 ∧ col6 d.bwr = 7) := by
                    have l := HP1.out.lt
                    have c := HP1.out.2.2.2.2.1
                    exact ⟨HF6.out.2 _ l.1 c.1, HF6.out.2 _ l.2.1 c.2.1, HF6.out.2 _ l.2.2.1 c.2.2.1, HF6.out.2 _ l.2.2.2 c.2.2.2⟩
                  refine wp_region_held_drew (S := fun w' => w'.cell? ⟨d.b, 1, none⟩ = some (.pointer (some ⟨d.br, 0, none⟩)) ∧ w'.cell? ⟨d.br, 0, none⟩ = some (.slice (some ⟨d.bwr, 0, none⟩) n capq)) (by kernel_rfl) ?hS78 (fun hHeld => ?rest78)
                  case hS78 => exact ⟨s1, t0⟩
                  refine wpAnyH_take (i := 0) (v := ?v79) rfl (by kernel_rfl) (by kernel_rfl) (by kernel_rfl) (fun _ _ _ h => h) (Or.inl ⟨by rfl, ?hy79⟩) (by assumption) ?rest79
                  case hy79 => (intro w hSw; (try dsimp only at hSw); simp only [List.getElem_toArray, List.getElem_cons_zero, List.getElem_cons_succ]; go_simp; (try with_reducible rfl))
                  (try simp only [Act.put, List.getElem_toArray, List.getElem_cons_zero, List.getElem_cons_succ, List.setIfInBounds_toArray, List.set_cons_zero, List.set_cons_succ])
                  refine wpAnyH_take (i := 1) (v := ?v80) rfl (by kernel_rfl) (by kernel_rfl) (by kernel_rfl) (fun _ _ _ h => h) (Or.inl ⟨by rfl, ?hy80⟩) (by assumption) ?rest80
                  case hy80 => (intro w hSw; (try dsimp only at hSw); simp only [List.getElem_toArray, List.getElem_cons_zero, List.getElem_cons_succ]; go_simp; (try with_reducible rfl))
                  (try simp only [Act.put, List.getElem_toArray, List.getElem_cons_zero, List.getElem_cons_succ, List.setIfInBounds_toArray, List.set_cons_zero, List.set_cons_succ])
                  refine wpAnyH_take (i := 2) (v := ?v81) rfl (by kernel_rfl) (by kernel_rfl) (by kernel_rfl) (fun _ _ _ h => h) (Or.inl ⟨by rfl, ?hy81⟩) (by assumption) ?rest81
                  case hy81 => (intro w hSw; (try dsimp only at hSw); simp only [List.getElem_toArray, List.getElem_cons_zero, List.getElem_cons_succ]; go_simp; (try with_reducible rfl))
                  (try simp only [Act.put, List.getElem_toArray, List.getElem_cons_zero, List.getElem_cons_succ, List.setIfInBounds_toArray, List.set_cons_zero, List.set_cons_succ])
                  refine wpAnyH_take (i := 3) (v := ?v82) rfl (by kernel_rfl) (by kernel_rfl) (by kernel_rfl) (fun _ _ _ h => h) (Or.inl ⟨by rfl, ?hy82⟩) (by assumption) ?rest82
                  case hy82 => (intro w hSw; (try dsimp only at hSw); simp only [List.getElem_toArray, List.getElem_cons_zero, List.getElem_cons_succ]; go_simp; (try with_reducible rfl))
                  (try simp only [Act.put, List.getElem_toArray, List.getElem_cons_zero, List.getElem_cons_succ, List.setIfInBounds_toArray, List.set_cons_zero, List.set_cons_succ])
                  refine wpAnyH_take (i := 5) (v := ?v83) rfl (by kernel_rfl) (by kernel_rfl) (by kernel_rfl) (fun _ _ _ h => h) (Or.inl ⟨by rfl, ?hy83⟩) (by assumption) ?rest83
                  case hy83 => (intro w hSw; (try dsimp only at hSw); simp only [List.getElem_toArray, List.getElem_cons_zero, List.getElem_cons_succ]; go_simp; (try with_reducible rfl))
                  (try simp only [Act.put, List.getElem_toArray, List.getElem_cons_zero, List.getElem_cons_succ, List.setIfInBounds_toArray, List.set_cons_zero, List.set_cons_succ])
                  refine wpAnyH_take (i := 6) (v := ?v84) rfl (by kernel_rfl) (by kernel_rfl) (by kernel_rfl) (fun _ _ _ h => h) (Or.inl ⟨by rfl, ?hy84⟩) (by assumption) ?rest84
                  case hy84 => (intro w hSw; (try dsimp only at hSw); simp only [List.getElem_toArray, List.getElem_cons_zero, List.getElem_cons_succ]; go_simp; (try with_reducible rfl))
                  (try simp only [Act.put, List.getElem_toArray, List.getElem_cons_zero, List.getElem_cons_succ, List.setIfInBounds_toArray, List.set_cons_zero, List.set_cons_succ])
                  refine wpAnyH_take (i := 7) (v := ?v85) rfl (by kernel_rfl) (by kernel_rfl) (by kernel_rfl) (fun _ _ _ h => h) (Or.inl ⟨by rfl, ?hy85⟩) (by assumption) ?rest85
                  case hy85 => (intro w hSw; (try dsimp only at hSw); simp only [List.getElem_toArray, List.getElem_cons_zero, List.getElem_cons_succ]; go_simp; (try with_reducible rfl))
                  (try simp only [Act.put, List.getElem_toArray, List.getElem_cons_zero, List.getElem_cons_succ, List.setIfInBounds_toArray, List.set_cons_zero, List.set_cons_succ])
                  refine wpAnyH_take (i := 8) (v := ?v86) rfl (by kernel_rfl) (by kernel_rfl) (by kernel_rfl) (fun _ _ _ h => h) (Or.inl ⟨by rfl, ?hy86⟩) (by assumption) ?rest86
                  case hy86 => (intro w hSw; (try dsimp only at hSw); simp only [List.getElem_toArray, List.getElem_cons_zero, List.getElem_cons_succ]; go_simp; (try with_reducible rfl))
                  (try simp only [Act.put, List.getElem_toArray, List.getElem_cons_zero, List.getElem_cons_succ, List.setIfInBounds_toArray, List.set_cons_zero, List.set_cons_succ])
                  refine wpAnyH_take (i := 9) (v := ?v87) rfl (by kernel_rfl) (by kernel_rfl) (by kernel_rfl) (fun _ _ _ h => h) (Or.inl ⟨by rfl, ?hy87⟩) (by assumption) ?rest87
                  case hy87 => (intro w hSw; (try dsimp only at hSw); simp only [List.getElem_toArray, List.getElem_cons_zero, List.getElem_cons_succ]; go_simp; (try with_reducible rfl))
                  (try simp only [Act.put, List.getElem_toArray, List.getElem_cons_zero, List.getElem_cons_succ, List.setIfInBounds_toArray, List.set_cons_zero, List.set_cons_succ])
                  refine wpAnyH_take (i := 10) (v := ?v88) rfl (by kernel_rfl) (by kernel_rfl) (by kernel_rfl) (fun _ _ _ h => h) (Or.inl ⟨by rfl, ?hy88⟩) (by assumption) ?rest88
                  case hy88 => (intro w hSw; (try dsimp only at hSw); simp only [List.getElem_toArray, List.getElem_cons_zero, List.getElem_cons_succ]; go_simp; (try with_reducible rfl))
                  (try simp only [Act.put, List.getElem_toArray, List.getElem_cons_zero, List.getElem_cons_succ, List.setIfInBounds_toArray, List.set_cons_zero, List.set_cons_succ])
                  refine wpAnyH_take (i := 11) (v := ?v89) rfl (by kernel_rfl) (by kernel_rfl) (by kernel_rfl) (fun _ _ _ h => h) (Or.inl ⟨by rfl, ?hy89⟩) (by assumption) ?rest89
                  case hy89 => (intro w hSw; (try dsimp only at hSw); simp only [List.getElem_toArray, List.getElem_cons_zero, List.getElem_cons_succ]; go_simp; (try with_reducible rfl))
                  (try simp only [Act.put, List.getElem_toArray, List.getElem_cons_zero, List.getElem_cons_succ, List.setIfInBounds_toArray, List.set_cons_zero, List.set_cons_succ])
                  refine wpAnyH_take (i := 13) (v := ?v90) rfl (by kernel_rfl) (by kernel_rfl) (by kernel_rfl) (fun _ _ _ h => h) (Or.inl ⟨by rfl, ?hy90⟩) (by assumption) ?rest90
                  case hy90 => (intro w hSw; (try dsimp only at hSw); simp only [List.getElem_toArray, List.getElem_cons_zero, List.getElem_cons_succ]; go_simp; (try with_reducible rfl))
                  (try simp only [Act.put, List.getElem_toArray, List.getElem_cons_zero, List.getElem_cons_succ, List.setIfInBounds_toArray, List.set_cons_zero, List.set_cons_succ])
                  refine wpAnyH_take (i := 14) (v := ?v91) rfl (by kernel_rfl) (by kernel_rfl) (by kernel_rfl) (fun _ _ _ h => h) (Or.inl ⟨by rfl, ?hy91⟩) (by assumption) ?rest91
                  case hy91 => (intro w hSw; (try dsimp only at hSw); simp only [List.getElem_toArray, List.getElem_cons_zero, List.getElem_cons_succ]; go_simp; (try with_reducible rfl))
                  (try simp only [Act.put, List.getElem_toArray, List.getElem_cons_zero, List.getElem_cons_succ, List.setIfInBounds_toArray, List.set_cons_zero, List.set_cons_succ])
                  refine wpAnyH_take (i := 15) (v := ?v92) rfl (by kernel_rfl) (by kernel_rfl) (by kernel_rfl) (fun _ _ _ h => h) (Or.inl ⟨by rfl, ?hy92⟩) (by assumption) ?rest92
                  case hy92 => (intro w hSw; (try dsimp only at hSw); simp only [List.getElem_toArray, List.getElem_cons_zero, List.getElem_cons_succ]; go_simp; (try with_reducible rfl))
                  (try simp only [Act.put, List.getElem_toArray, List.getElem_cons_zero, List.getElem_cons_succ, List.setIfInBounds_toArray, List.set_cons_zero, List.set_cons_succ])
                  refine wpAnyH_take (i := 16) (v := ?v93) rfl (by kernel_rfl) (by kernel_rfl) (by kernel_rfl) (fun _ _ _ h => h) (Or.inl ⟨by rfl, ?hy93⟩) (by assumption) ?rest93
                  case hy93 => (intro w hSw; (try dsimp only at hSw); simp only [List.getElem_toArray, List.getElem_cons_zero, List.getElem_cons_succ]; go_simp; (try with_reducible rfl))
                  (try simp only [Act.put, List.getElem_toArray, List.getElem_cons_zero, List.getElem_cons_succ, List.setIfInBounds_toArray, List.set_cons_zero, List.set_cons_succ])
                  refine wpAnyH_take (i := 17) (v := ?v94) rfl (by kernel_rfl) (by kernel_rfl) (by kernel_rfl) (fun _ _ _ h => h) (Or.inl ⟨by rfl, ?hy94⟩) (by assumption) ?rest94
                  case hy94 => (intro w hSw; (try dsimp only at hSw); simp only [List.getElem_toArray, List.getElem_cons_zero, List.getElem_cons_succ]; go_simp; (try with_reducible rfl))
                  (try simp only [Act.put, List.getElem_toArray, List.getElem_cons_zero, List.getElem_cons_succ, List.setIfInBounds_toArray, List.set_cons_zero, List.set_cons_succ])
                  refine wpAnyH_take (i := 18) (v := ?v95) rfl (by kernel_rfl) (by kernel_rfl) (by kernel_rfl) (fun _ _ _ h => h) (Or.inl ⟨by rfl, ?hy95⟩) (by assumption) ?rest95
                  case hy95 => (intro w hSw; (try dsimp only at hSw); simp only [List.getElem_toArray, List.getElem_cons_zero, List.getElem_cons_succ]; go_simp; (try with_reducible rfl))
                  (try simp only [Act.put, List.getElem_toArray, List.getElem_cons_zero, List.getElem_cons_succ, List.setIfInBounds_toArray, List.set_cons_zero, List.set_cons_succ])
                  refine wpAnyH_take (i := 19) (v := ?v96) rfl (by kernel_rfl) (by kernel_rfl) (by kernel_rfl) (fun _ _ _ h => h) (Or.inl ⟨by rfl, ?hy96⟩) (by assumption) ?rest96
                  case hy96 => (intro w hSw; (try dsimp only at hSw); simp only [List.getElem_toArray, List.getElem_cons_zero, List.getElem_cons_succ]; go_simp; (try with_reducible rfl))
                  (try simp only [Act.put, List.getElem_toArray, List.getElem_cons_zero, List.getElem_cons_succ, List.setIfInBounds_toArray, List.set_cons_zero, List.set_cons_succ])
                  refine wpAnyH_ready (rs := [4, 12]) (by kernel_rfl) (by simp) ?_
                  refine AllReadyH.cons rfl (fun K hK => ?_) ?_
                  · simp only [List.getElem_toArray, List.getElem_cons_zero, List.getElem_cons_succ]
                    go_simp
                    refine hK.out _ _ ?hS97 (fun hHeld2 => ?rest97)
                    case hS97 => assumption
                    clear hK K
                    (try clear hHeld)
                    have hHeld := hHeld2
                    clear hHeld2
                    (try simp only [Act.put, List.getElem_toArray, List.getElem_cons_zero, List.getElem_cons_succ, List.setIfInBounds_toArray, List.set_cons_zero, List.set_cons_succ])
                    refine wpAnyH_ready (rs := [12]) (by kernel_rfl) (by simp) ?_
                    refine AllReadyH.cons rfl (fun K hK => ?_) ?_
                    · refine pcopy_step (cap := capq) (S := d.S) (by rfl) _ (by rfl) (by rfl) (HRow.out _ (Out.refl 0 0 _).drew) HN1.out.1 HN1.out.2 ?_
                      intro ga8 cap8 w8 ho8 hl8
                      have HL8 : Hid (ListIs w8 W7.heap.size (.slice (some ⟨ga8, 0, none⟩) n cap8) (pgl d.S n)) := hl8
                      have HO8 : Hid (Out 0 0 W7 w8) := (Out.refl 0 0 W7).drew.trans ho8
                      have m1 := HO8.out.cell s1 (.inr (Nat.zero_le _))
                      have m2 := HO8.out.cell t0 (.inr (Nat.zero_le _))
                      have m3 := HO8.out.cell s3 (.inr (Nat.zero_le _))
                      clear hl8 ho8
                      refine hK.out _ _ ?hS98 (fun hHeld2 => ?rest98)
                      case hS98 => exact ⟨m1, m2⟩
                      clear hK K
                      (try clear hHeld)
                      have hHeld := hHeld2
                      clear hHeld2
                      (try simp only [Act.put, List.getElem_toArray, List.getElem_cons_zero, List.getElem_cons_succ, List.setIfInBounds_toArray, List.set_cons_zero, List.set_cons_succ])
                      refine wpAnyH_ready (rs := [20]) (by kernel_rfl) (by simp) ?_
                      refine AllReadyH.cons rfl (fun K hK => ?_) ?_
                      · refine pcopy_step (cap := capq) (S := d.S) (by rfl) _ (by rfl) (by rfl) (HRow.out _ HO8.out) HN1.out.1 HN1.out.2 ?_
                        intro gb9 cap9 w9 ho9 hl9
                        have HL9 := hid_mk hl9
                        have HO89 := hid_mk ho9
                        have HO9 := hid_mk (HO8.out.trans ho9)
                        have u1 := HO9.out.cell s1 (.inr (Nat.zero_le _))
                        have u2 := HO9.out.cell t0 (.inr (Nat.zero_le _))
                        have u3 := HO9.out.cell s3 (.inr (Nat.zero_le _))
                        have u1' := (HO9.out.alloc (.cells #[.slice (some ⟨ga8, 0, none⟩) n cap8, .slice (some ⟨gb9, 0, none⟩) n cap9] 37)).cell s1 (.inr (Nat.zero_le _))
                        have u2' := (HO9.out.alloc (.cells #[.slice (some ⟨ga8, 0, none⟩) n cap8, .slice (some ⟨gb9, 0, none⟩) n cap9] 37)).cell t0 (.inr (Nat.zero_le _))
                        have u3' := (HO9.out.alloc (.cells #[.slice (some ⟨ga8, 0, none⟩) n cap8, .slice (some ⟨gb9, 0, none⟩) n cap9] 37)).cell s3 (.inr (Nat.zero_le _))
                        clear hl9 ho9
                        refine hK.out _ _ ?hS99 (fun hHeld2 => ?rest99)
                        case hS99 => exact ⟨u1, u2⟩
                        clear hK K
                        (try clear hHeld)
                        have hHeld := hHeld2
                        clear hHeld2
                        (try simp only [Act.put, List.getElem_toArray, List.getElem_cons_zero, List.getElem_cons_succ, List.setIfInBounds_toArray, List.set_cons_zero, List.set_cons_succ])
                        refine wpAnyH_ready (rs := [21]) (by kernel_rfl) (by simp) ?_
                        refine AllReadyH.cons rfl (fun K hK => ?_) ?_
                        · simp only [List.getElem_toArray, List.getElem_cons_zero, List.getElem_cons_succ]
                          go_simp
                          refine hK.out _ _ ?hS100 (fun hHeld2 => ?rest100)
                          case hS100 => exact ⟨u1', u2'⟩
                          clear hK K
                          (try clear hHeld)
                          have hHeld := hHeld2
                          clear hHeld2
                          (try simp only [Act.put, List.getElem_toArray, List.getElem_cons_zero, List.getElem_cons_succ, List.setIfInBounds_toArray, List.set_cons_zero, List.set_cons_succ])
                          refine wpAnyH_ready (rs := [22]) (by kernel_rfl) (by simp) ?_
                          refine AllReadyH.cons rfl (fun K hK => ?_) ?_
                          · refine app_step (by rfl) _ _ 56 (by rfl) B 37 i1 (.slice none 0 0) 24 Tryd.underlying56 hi1 hy0 hy1 hy2 rfl (.slice aW Wr.length capW) Wr.length Wr (by rfl) (own_kept HK6.out.oW (HO9.out.alloc _) (Nat.zero_le _)) ⟨w9.heap.size, 0, none⟩ 2 2 [.slice (some ⟨ga8, 0, none⟩) n cap8, .slice (some ⟨gb9, 0, none⟩) n cap9] (by rfl) (by rfl) (two_cells _ _ _ _) (two_one rfl rfl) (by decide) (by unfold maxLen; have := HkL.out; have := Hk1.out; omega) (by have := HkL.out; have := Hk1.out; omega) (by have := HSz.out; have := HO9.out.size; simp; omega) ?_
                            intro gX capX wX ownX grX
                            obtain ⟨hbX, colX, fxX, kfX, lfX, cfX⟩ := were_two HK6.out ⟨(by show (if Wr.length + 0 < L.length then C (Wr.length + 0) else _) = _; rw [if_neg (by have := Hk1.out; omega)]), (by show (if Wr.length + 1 < L.length then C (Wr.length + 1) else _) = _; rw [if_neg (by have := Hk1.out; omega)])⟩ HL6.out HC6.out HO8.out HL8.out HO89.out HL9.out ((Out.refl 0 0 _).alloc _) ownX grX
                            obtain ⟨_, y1, _, y3, _, _, yf⟩ := keep_cells hbX
                            have yf3 := yf 3
                            have y2 : wX.cell? ⟨d.br, 0, none⟩ = some (.slice (some ⟨d.bwr, 0, none⟩) n capq) := by
                              rw [← World.cell?_of_block (w := wX) (a := ⟨d.br, 0, none⟩) (Below.heap_setCell wX ⟨d.b, 3, none⟩ (.slice (some ⟨gX, 0, none⟩) (Wr.length + 2) capX) d.br HNe.out)]
                              exact fxX.cell t0 H67.out.2.2.1
                            obtain ⟨_, z1, _, _, _, _, _⟩ := keep_cells kfX.hb
                            have z2 := fxX.cell t0 H67.out.2.2.1
                            have HKX := hid_mk kfX
                            have HFX := hid_mk (HF6.out.trans fxX)
                            have HLX := hid_mk lfX
                            have HCX := hid_mk cfX
                            clear hbX fxX kfX lfX cfX yf ownX grX
                            refine hK.out _ _ ?hS101 (fun hHeld2 => ?rest101)
                            case hS101 => exact ⟨y1, y2⟩
                            clear hK K
                            (try clear hHeld)
                            have hHeld := hHeld2
                            clear hHeld2
                            (try simp only [Act.put, List.getElem_toArray, List.getElem_cons_zero, List.getElem_cons_succ, List.setIfInBounds_toArray, List.set_cons_zero, List.set_cons_succ])
                            refine wpAnyH_take (i := 23) (v := ?v102) rfl (by kernel_rfl) (by kernel_rfl) (by kernel_rfl) (fun _ _ _ h => h) (Or.inl ⟨by rfl, ?hy102⟩) (by assumption) ?rest102
                            case hy102 => (intro w hSw; (try dsimp only at hSw); simp only [List.getElem_toArray, List.getElem_cons_zero, List.getElem_cons_succ]; go_simp; (try with_reducible rfl))
                            (try simp only [Act.put, List.getElem_toArray, List.getElem_cons_zero, List.getElem_cons_succ, List.setIfInBounds_toArray, List.set_cons_zero, List.set_cons_succ])
                            refine wpAnyH_take (i := 24) (v := ?v103) rfl (by kernel_rfl) (by kernel_rfl) (by kernel_rfl) (fun _ _ _ h => h) (Or.inl ⟨by rfl, ?hy103⟩) (by assumption) ?rest103
                            case hy103 => (intro w hSw; (try dsimp only at hSw); simp only [List.getElem_toArray, List.getElem_cons_zero, List.getElem_cons_succ]; go_simp; (try with_reducible rfl))
                            (try simp only [Act.put, List.getElem_toArray, List.getElem_cons_zero, List.getElem_cons_succ, List.setIfInBounds_toArray, List.set_cons_zero, List.set_cons_succ])
                            refine wpAnyH_ready (rs := [25]) (by kernel_rfl) (by simp) ?_
                            refine AllReadyH.cons rfl (fun K hK => ?_) ?_
                            · simp only [List.getElem_toArray, List.getElem_cons_zero, List.getElem_cons_succ]
                              go_simp
                              refine hK.out _ _ ?hS104 (fun hHeld2 => ?rest104)
                              case hS104 => exact ⟨z1, z2⟩
                              clear hK K
                              (try clear hHeld)
                              have hHeld := hHeld2
                              clear hHeld2
                              (try simp only [Act.put, List.getElem_toArray, List.getElem_cons_zero, List.getElem_cons_succ, List.setIfInBounds_toArray, List.set_cons_zero, List.set_cons_succ])
                              refine wpAnyH_done (by kernel_rfl) ?_ _
                              obtain ⟨W10, hW10⟩ : ∃ W10, wX.setCell ⟨d.b, 3, none⟩ (.slice (some ⟨gX, 0, none⟩) (Wr.length + 2) capX) = W10 := ⟨_, rfl⟩
                              rw [hW10] at HKX HFX HLX ⊢
                              have HMk := hid_mk (mark_any HKX.out HLX.out HCX.out Hk3.out (by have := Hk3.out; have := HnS.out; omega) (by rw [pgl_len]; omega))
                              clear hW10 y1 y2 y3 yf3 z1 z2 hHeld m1 m2 m3 u1 u2 u3 u1' u2' u3' s1 s3 t0
                              go_wp2_with (go_at_call 29; refine HMk.out.mono ?_; rintro e w11 ⟨rfl, hme⟩)
                              go_ret
                              obtain ⟨xS, xM, xLs, xMk, xcol, k1, k2, k3, k4⟩ := hme
                              exact ⟨rfl, _, (Act.quiet HP.out HO1.out).trans (HP1.out.fixed (HFX.out.trans k4) k1 (fun _ => by rw [List.length_append, List.length_append, Hk1.out]; rfl) rfl k2 k3 (look_nums HN.out HU.out Hk2.out Hk3.out Hk4.out HnS.out (by omega))), rfl⟩
                            · exact AllReadyH.nil
                          · exact AllReadyH.nil
                        · exact AllReadyH.nil
                      · exact AllReadyH.nil
                    · exact AllReadyH.nil
                  · refine AllReadyH.cons rfl (fun K hK => ?_) ?_
                    · refine pcopy_step (cap := capq) (S := d.S) (by rfl) _ (by rfl) (by rfl) (HRow.out _ (Out.refl 0 0 _).drew) HN1.out.1 HN1.out.2 ?_
                      intro ga8 cap8 w8 ho8 hl8
                      have HL8 : Hid (ListIs w8 W7.heap.size (.slice (some ⟨ga8, 0, none⟩) n cap8) (pgl d.S n)) := hl8
                      have HO8 : Hid (Out 0 0 W7 w8) := (Out.refl 0 0 W7).drew.trans ho8
                      have m1 := HO8.out.cell s1 (.inr (Nat.zero_le _))
                      have m2 := HO8.out.cell t0 (.inr (Nat.zero_le _))
                      have m3 := HO8.out.cell s3 (.inr (Nat.zero_le _))
                      clear hl8 ho8
                      refine hK.out _ _ ?hS105 (fun hHeld2 => ?rest105)
                      case hS105 => exact ⟨m1, m2⟩
                      clear hK K
                      (try clear hHeld)
                      have hHeld := hHeld2
                      clear hHeld2
                      (try simp only [Act.put, List.getElem_toArray, List.getElem_cons_zero, List.getElem_cons_succ, List.setIfInBounds_toArray, List.set_cons_zero, List.set_cons_succ])
                      refine wpAnyH_ready (rs := [4, 20]) (by kernel_rfl) (by simp) ?_
                      refine AllReadyH.cons rfl (fun K hK => ?_) ?_
                      · simp only [List.getElem_toArray, List.getElem_cons_zero, List.getElem_cons_succ]
                        go_simp
                        refine hK.out _ _ ?hS106 (fun hHeld2 => ?rest106)
                        case hS106 => assumption
                        clear hK K
                        (try clear hHeld)
                        have hHeld := hHeld2
                        clear hHeld2
                        (try simp only [Act.put, List.getElem_toArray, List.getElem_cons_zero, List.getElem_cons_succ, List.setIfInBounds_toArray, List.set_cons_zero, List.set_cons_succ])
                        refine wpAnyH_ready (rs := [20]) (by kernel_rfl) (by simp) ?_
                        refine AllReadyH.cons rfl (fun K hK => ?_) ?_
                        · refine pcopy_step (cap := capq) (S := d.S) (by rfl) _ (by rfl) (by rfl) (HRow.out _ HO8.out) HN1.out.1 HN1.out.2 ?_
                          intro gb9 cap9 w9 ho9 hl9
                          have HL9 := hid_mk hl9
                          have HO89 := hid_mk ho9
                          have HO9 := hid_mk (HO8.out.trans ho9)
                          have u1 := HO9.out.cell s1 (.inr (Nat.zero_le _))
                          have u2 := HO9.out.cell t0 (.inr (Nat.zero_le _))
                          have u3 := HO9.out.cell s3 (.inr (Nat.zero_le _))
                          have u1' := (HO9.out.alloc (.cells #[.slice (some ⟨ga8, 0, none⟩) n cap8, .slice (some ⟨gb9, 0, none⟩) n cap9] 37)).cell s1 (.inr (Nat.zero_le _))
                          have u2' := (HO9.out.alloc (.cells #[.slice (some ⟨ga8, 0, none⟩) n cap8, .slice (some ⟨gb9, 0, none⟩) n cap9] 37)).cell t0 (.inr (Nat.zero_le _))
                          have u3' := (HO9.out.alloc (.cells #[.slice (some ⟨ga8, 0, none⟩) n cap8, .slice (some ⟨gb9, 0, none⟩) n cap9] 37)).cell s3 (.inr (Nat.zero_le _))
                          clear hl9 ho9
                          refine hK.out _ _ ?hS107 (fun hHeld2 => ?rest107)
                          case hS107 => exact ⟨u1, u2⟩
                          clear hK K
                          (try clear hHeld)
                          have hHeld := hHeld2
                          clear hHeld2
                          (try simp only [Act.put, List.getElem_toArray, List.getElem_cons_zero, List.getElem_cons_succ, List.setIfInBounds_toArray, List.set_cons_zero, List.set_cons_succ])
                          refine wpAnyH_ready (rs := [21]) (by kernel_rfl) (by simp) ?_
                          refine AllReadyH.cons rfl (fun K hK => ?_) ?_
                          · simp only [List.getElem_toArray, List.getElem_cons_zero, List.getElem_cons_succ]
                            go_simp
                            refine hK.out _ _ ?hS108 (fun hHeld2 => ?rest108)
                            case hS108 => exact ⟨u1', u2'⟩
                            clear hK K
                            (try clear hHeld)
                            have hHeld := hHeld2
                            clear hHeld2
                            (try simp only [Act.put, List.getElem_toArray, List.getElem_cons_zero, List.getElem_cons_succ, List.setIfInBounds_toArray, List.set_cons_zero, List.set_cons_succ])
                            refine wpAnyH_ready (rs := [22]) (by kernel_rfl) (by simp) ?_
                            refine AllReadyH.cons rfl (fun K hK => ?_) ?_
                            · refine app_step (by rfl) _ _ 56 (by rfl) B 37 i1 (.slice none 0 0) 24 Tryd.underlying56 hi1 hy0 hy1 hy2 rfl (.slice aW Wr.length capW) Wr.length Wr (by rfl) (own_kept HK6.out.oW (HO9.out.alloc _) (Nat.zero_le _)) ⟨w9.heap.size, 0, none⟩ 2 2 [.slice (some ⟨ga8, 0, none⟩) n cap8, .slice (some ⟨gb9, 0, none⟩) n cap9] (by rfl) (by rfl) (two_cells _ _ _ _) (two_one rfl rfl) (by decide) (by unfold maxLen; have := HkL.out; have := Hk1.out; omega) (by have := HkL.out; have := Hk1.out; omega) (by have := HSz.out; have := HO9.out.size; simp; omega) ?_
                              intro gX capX wX ownX grX
                              obtain ⟨hbX, colX, fxX, kfX, lfX, cfX⟩ := were_two HK6.out ⟨(by show (if Wr.length + 0 < L.length then C (Wr.length + 0) else _) = _; rw [if_neg (by have := Hk1.out; omega)]), (by show (if Wr.length + 1 < L.length then C (Wr.length + 1) else _) = _; rw [if_neg (by have := Hk1.out; omega)])⟩ HL6.out HC6.out HO8.out HL8.out HO89.out HL9.out ((Out.refl 0 0 _).alloc _) ownX grX
                              obtain ⟨_, y1, _, y3, _, _, yf⟩ := keep_cells hbX
                              have yf3 := yf 3
                              have y2 : wX.cell? ⟨d.br, 0, none⟩ = some (.slice (some ⟨d.bwr, 0, none⟩) n capq) := by
                                rw [← World.cell?_of_block (w := wX) (a := ⟨d.br, 0, none⟩) (Below.heap_setCell wX ⟨d.b, 3, none⟩ (.slice (some ⟨gX, 0, none⟩) (Wr.length + 2) capX) d.br HNe.out)]
                                exact fxX.cell t0 H67.out.2.2.1
                              obtain ⟨_, z1, _, _, _, _, _⟩ := keep_cells kfX.hb
                              have z2 := fxX.cell t0 H67.out.2.2.1
                              have HKX := hid_mk kfX
                              have HFX := hid_mk (HF6.out.trans fxX)
                              have HLX := hid_mk lfX
                              have HCX := hid_mk cfX
                              clear hbX fxX kfX lfX cfX yf ownX grX
                              refine hK.out _ _ ?hS109 (fun hHeld2 => ?rest109)
                              case hS109 => exact ⟨y1, y2⟩
                              clear hK K
                              (try clear hHeld)
                              have hHeld := hHeld2
                              clear hHeld2
                              (try simp only [Act.put, List.getElem_toArray, List.getElem_cons_zero, List.getElem_cons_succ, List.setIfInBounds_toArray, List.set_cons_zero, List.set_cons_succ])
                              refine wpAnyH_take (i := 23) (v := ?v110) rfl (by kernel_rfl) (by kernel_rfl) (by kernel_rfl) (fun _ _ _ h => h) (Or.inl ⟨by rfl, ?hy110⟩) (by assumption) ?rest110
                              case hy110 => (intro w hSw; (try dsimp only at hSw); simp only [List.getElem_toArray, List.getElem_cons_zero, List.getElem_cons_succ]; go_simp; (try with_reducible rfl))
                              (try simp only [Act.put, List.getElem_toArray, List.getElem_cons_zero, List.getElem_cons_succ, List.setIfInBounds_toArray, List.set_cons_zero, List.set_cons_succ])
                              refine wpAnyH_take (i := 24) (v := ?v111) rfl (by kernel_rfl) (by kernel_rfl) (by kernel_rfl) (fun _ _ _ h => h) (Or.inl ⟨by rfl, ?hy111⟩) (by assumption) ?rest111
                              case hy111 => (intro w hSw; (try dsimp only at hSw); simp only [List.getElem_toArray, List.getElem_cons_zero, List.getElem_cons_succ]; go_simp; (try with_reducible rfl))
                              (try simp only [Act.put, List.getElem_toArray, List.getElem_cons_zero, List.getElem_cons_succ, List.setIfInBounds_toArray, List.set_cons_zero, List.set_cons_succ])
                              refine wpAnyH_ready (rs := [25]) (by kernel_rfl) (by simp) ?_
                              refine AllReadyH.cons rfl (fun K hK => ?_) ?_
                              · simp only [List.getElem_toArray, List.getElem_cons_zero, List.getElem_cons_succ]
                                go_simp
                                refine hK.out _ _ ?hS112 (fun hHeld2 => ?rest112)
                                case hS112 => exact ⟨z1, z2⟩
                                clear hK K
                                (try clear hHeld)
                                have hHeld := hHeld2
                                clear hHeld2
                                (try simp only [Act.put, List.getElem_toArray, List.getElem_cons_zero, List.getElem_cons_succ, List.setIfInBounds_toArray, List.set_cons_zero, List.set_cons_succ])
                                refine wpAnyH_done (by kernel_rfl) ?_ _
                                obtain ⟨W10, hW10⟩ : ∃ W10, wX.setCell ⟨d.b, 3, none⟩ (.slice (some ⟨gX, 0, none⟩) (Wr.length + 2) capX) = W10 := ⟨_, rfl⟩
                                rw [hW10] at HKX HFX HLX ⊢
                                have HMk := hid_mk (mark_any HKX.out HLX.out HCX.out Hk3.out (by have := Hk3.out; have := HnS.out; omega) (by rw [pgl_len]; omega))
                                clear hW10 y1 y2 y3 yf3 z1 z2 hHeld m1 m2 m3 u1 u2 u3 u1' u2' u3' s1 s3 t0
                                go_wp2_with (go_at_call 29; refine HMk.out.mono ?_; rintro e w11 ⟨rfl, hme⟩)
                                go_ret
                                obtain ⟨xS, xM, xLs, xMk, xcol, k1, k2, k3, k4⟩ := hme
                                exact ⟨rfl, _, (Act.quiet HP.out HO1.out).trans (HP1.out.fixed (HFX.out.trans k4) k1 (fun _ => by rw [List.length_append, List.length_append, Hk1.out]; rfl) rfl k2 k3 (look_nums HN.out HU.out Hk2.out Hk3.out Hk4.out HnS.out (by omega))), rfl⟩
                              · exact AllReadyH.nil
                            · exact AllReadyH.nil
                          · exact AllReadyH.nil
                        · exact AllReadyH.nil
                      · refine AllReadyH.cons rfl (fun K hK => ?_) ?_
                        · refine pcopy_step (cap := capq) (S := d.S) (by rfl) _ (by rfl) (by rfl) (HRow.out _ HO8.out) HN1.out.1 HN1.out.2 ?_
                          intro gb9 cap9 w9 ho9 hl9
                          have HL9 := hid_mk hl9
                          have HO89 := hid_mk ho9
                          have HO9 := hid_mk (HO8.out.trans ho9)
                          have u1 := HO9.out.cell s1 (.inr (Nat.zero_le _))
                          have u2 := HO9.out.cell t0 (.inr (Nat.zero_le _))
                          have u3 := HO9.out.cell s3 (.inr (Nat.zero_le _))
                          have u1' := (HO9.out.alloc (.cells #[.slice (some ⟨ga8, 0, none⟩) n cap8, .slice (some ⟨gb9, 0, none⟩) n cap9] 37)).cell s1 (.inr (Nat.zero_le _))
                          have u2' := (HO9.out.alloc (.cells #[.slice (some ⟨ga8, 0, none⟩) n cap8, .slice (some ⟨gb9, 0, none⟩) n cap9] 37)).cell t0 (.inr (Nat.zero_le _))
                          have u3' := (HO9.out.alloc (.cells #[.slice (some ⟨ga8, 0, none⟩) n cap8, .slice (some ⟨gb9, 0, none⟩) n cap9] 37)).cell s3 (.inr (Nat.zero_le _))
                          clear hl9 ho9
                          refine hK.out _ _ ?hS113 (fun hHeld2 => ?rest113)
                          case hS113 => exact ⟨u1, u2⟩
                          clear hK K
                          (try clear hHeld)
                          have hHeld := hHeld2
                          clear hHeld2
                          (try simp only [Act.put, List.getElem_toArray, List.getElem_cons_zero, List.getElem_cons_succ, List.setIfInBounds_toArray, List.set_cons_zero, List.set_cons_succ])
                          refine wpAnyH_ready (rs := [4, 21]) (by kernel_rfl) (by simp) ?_
                          refine AllReadyH.cons rfl (fun K hK => ?_) ?_
                          · simp only [List.getElem_toArray, List.getElem_cons_zero, List.getElem_cons_succ]
                            go_simp
                            refine hK.out _ _ ?hS114 (fun hHeld2 => ?rest114)
                            case hS114 => assumption
                            clear hK K
                            (try clear hHeld)
                            have hHeld := hHeld2
                            clear hHeld2
                            (try simp only [Act.put, List.getElem_toArray, List.getElem_cons_zero, List.getElem_cons_succ, List.setIfInBounds_toArray, List.set_cons_zero, List.set_cons_succ])
                            refine wpAnyH_ready (rs := [21]) (by kernel_rfl) (by simp) ?_
                            refine AllReadyH.cons rfl (fun K hK => ?_) ?_
                            · simp only [List.getElem_toArray, List.getElem_cons_zero, List.getElem_cons_succ]
                              go_simp
                              refine hK.out _ _ ?hS115 (fun hHeld2 => ?rest115)
                              case hS115 => exact ⟨u1', u2'⟩
                              clear hK K
                              (try clear hHeld)
                              have hHeld := hHeld2
                              clear hHeld2
                              (try simp only [Act.put, List.getElem_toArray, List.getElem_cons_zero, List.getElem_cons_succ, List.setIfInBounds_toArray, List.set_cons_zero, List.set_cons_succ])
                              refine wpAnyH_ready (rs := [22]) (by kernel_rfl) (by simp) ?_
                              refine AllReadyH.cons rfl (fun K hK => ?_) ?_
                              · refine app_step (by rfl) _ _ 56 (by rfl) B 37 i1 (.slice none 0 0) 24 Tryd.underlying56 hi1 hy0 hy1 hy2 rfl (.slice aW Wr.length capW) Wr.length Wr (by rfl) (own_kept HK6.out.oW (HO9.out.alloc _) (Nat.zero_le _)) ⟨w9.heap.size, 0, none⟩ 2 2 [.slice (some ⟨ga8, 0, none⟩) n cap8, .slice (some ⟨gb9, 0, none⟩) n cap9] (by rfl) (by rfl) (two_cells _ _ _ _) (two_one rfl rfl) (by decide) (by unfold maxLen; have := HkL.out; have := Hk1.out; omega) (by have := HkL.out; have := Hk1.out; omega) (by have := HSz.out; have := HO9.out.size; simp; omega) ?_
                                intro gX capX wX ownX grX
                                obtain ⟨hbX, colX, fxX, kfX, lfX, cfX⟩ := were_two HK6.out ⟨(by show (if Wr.length + 0 < L.length then C (Wr.length + 0) else _) = _; rw [if_neg (by have := Hk1.out; omega)]), (by show (if Wr.length + 1 < L.length then C (Wr.length + 1) else _) = _; rw [if_neg (by have := Hk1.out; omega)])⟩ HL6.out HC6.out HO8.out HL8.out HO89.out HL9.out ((Out.refl 0 0 _).alloc _) ownX grX
                                obtain ⟨_, y1, _, y3, _, _, yf⟩ := keep_cells hbX
                                have yf3 := yf 3
                                have y2 : wX.cell? ⟨d.br, 0, none⟩ = some (.slice (some ⟨d.bwr, 0, none⟩) n capq) := by
                                  rw [← World.cell?_of_block (w := wX) (a := ⟨d.br, 0, none⟩) (Below.heap_setCell wX ⟨d.b, 3, none⟩ (.slice (some ⟨gX, 0, none⟩) (Wr.length + 2) capX) d.br HNe.out)]
                                  exact fxX.cell t0 H67.out.2.2.1
                                obtain ⟨_, z1, _, _, _, _, _⟩ := keep_cells kfX.hb
                                have z2 := fxX.cell t0 H67.out.2.2.1
                                have HKX := hid_mk kfX
                                have HFX := hid_mk (HF6.out.trans fxX)
                                have HLX := hid_mk lfX
                                have HCX := hid_mk cfX
                                clear hbX fxX kfX lfX cfX yf ownX grX
                                refine hK.out _ _ ?hS116 (fun hHeld2 => ?rest116)
                                case hS116 => exact ⟨y1, y2⟩
                                clear hK K
                                (try clear hHeld)
                                have hHeld := hHeld2
                                clear hHeld2
                                (try simp only [Act.put, List.getElem_toArray, List.getElem_cons_zero, List.getElem_cons_succ, List.setIfInBounds_toArray, List.set_cons_zero, List.set_cons_succ])
                                refine wpAnyH_take (i := 23) (v := ?v117) rfl (by kernel_rfl) (by kernel_rfl) (by kernel_rfl) (fun _ _ _ h => h) (Or.inl ⟨by rfl, ?hy117⟩) (by assumption) ?rest117
                                case hy117 => (intro w hSw; (try dsimp only at hSw); simp only [List.getElem_toArray, List.getElem_cons_zero, List.getElem_cons_succ]; go_simp; (try with_reducible rfl))
                                (try simp only [Act.put, List.getElem_toArray, List.getElem_cons_zero, List.getElem_cons_succ, List.setIfInBounds_toArray, List.set_cons_zero, List.set_cons_succ])
                                refine wpAnyH_take (i := 24) (v := ?v118) rfl (by kernel_rfl) (by kernel_rfl) (by kernel_rfl) (fun _ _ _ h => h) (Or.inl ⟨by rfl, ?hy118⟩) (by assumption) ?rest118
                                case hy118 => (intro w hSw; (try dsimp only at hSw); simp only [List.getElem_toArray, List.getElem_cons_zero, List.getElem_cons_succ]; go_simp; (try with_reducible rfl))
                                (try simp only [Act.put, List.getElem_toArray, List.getElem_cons_zero, List.getElem_cons_succ, List.setIfInBounds_toArray, List.set_cons_zero, List.set_cons_succ])
                                refine wpAnyH_ready (rs := [25]) (by kernel_rfl) (by simp) ?_
                                refine AllReadyH.cons rfl (fun K hK => ?_) ?_
                                · simp only [List.getElem_toArray, List.getElem_cons_zero, List.getElem_cons_succ]
                                  go_simp
                                  refine hK.out _ _ ?hS119 (fun hHeld2 => ?rest119)
                                  case hS119 => exact ⟨z1, z2⟩
                                  clear hK K
                                  (try clear hHeld)
                                  have hHeld := hHeld2
                                  clear hHeld2
                                  (try simp only [Act.put, List.getElem_toArray, List.getElem_cons_zero, List.getElem_cons_succ, List.setIfInBounds_toArray, List.set_cons_zero, List.set_cons_succ])
                                  refine wpAnyH_done (by kernel_rfl) ?_ _
                                  obtain ⟨W10, hW10⟩ : ∃ W10, wX.setCell ⟨d.b, 3, none⟩ (.slice (some ⟨gX, 0, none⟩) (Wr.length + 2) capX) = W10 := ⟨_, rfl⟩
                                  rw [hW10] at HKX HFX HLX ⊢
                                  have HMk := hid_mk (mark_any HKX.out HLX.out HCX.out Hk3.out (by have := Hk3.out; have := HnS.out; omega) (by rw [pgl_len]; omega))
                                  clear hW10 y1 y2 y3 yf3 z1 z2 hHeld m1 m2 m3 u1 u2 u3 u1' u2' u3' s1 s3 t0
                                  go_wp2_with (go_at_call 29; refine HMk.out.mono ?_; rintro e w11 ⟨rfl, hme⟩)
                                  go_ret
                                  obtain ⟨xS, xM, xLs, xMk, xcol, k1, k2, k3, k4⟩ := hme
                                  exact ⟨rfl, _, (Act.quiet HP.out HO1.out).trans (HP1.out.fixed (HFX.out.trans k4) k1 (fun _ => by rw [List.length_append, List.length_append, Hk1.out]; rfl) rfl k2 k3 (look_nums HN.out HU.out Hk2.out Hk3.out Hk4.out HnS.out (by omega))), rfl⟩
                                · exact AllReadyH.nil
                              · exact AllReadyH.nil
                            · exact AllReadyH.nil
                          · refine AllReadyH.cons rfl (fun K hK => ?_) ?_
                            · simp only [List.getElem_toArray, List.getElem_cons_zero, List.getElem_cons_succ]
                              go_simp
                              refine hK.out _ _ ?hS120 (fun hHeld2 => ?rest120)
                              case hS120 => exact ⟨u1', u2'⟩
                              clear hK K
                              (try clear hHeld)
                              have hHeld := hHeld2
                              clear hHeld2
                              (try simp only [Act.put, List.getElem_toArray, List.getElem_cons_zero, List.getElem_cons_succ, List.setIfInBounds_toArray, List.set_cons_zero, List.set_cons_succ])
                              refine wpAnyH_ready (rs := [4]) (by kernel_rfl) (by simp) ?_
                              refine AllReadyH.cons rfl (fun K hK => ?_) ?_
                              · simp only [List.getElem_toArray, List.getElem_cons_zero, List.getElem_cons_succ]
                                go_simp
                                refine hK.out _ _ ?hS121 (fun hHeld2 => ?rest121)
                                case hS121 => assumption
                                clear hK K
                                (try clear hHeld)
                                have hHeld := hHeld2
                                clear hHeld2
                                (try simp only [Act.put, List.getElem_toArray, List.getElem_cons_zero, List.getElem_cons_succ, List.setIfInBounds_toArray, List.set_cons_zero, List.set_cons_succ])
                                refine wpAnyH_ready (rs := [22]) (by kernel_rfl) (by simp) ?_
                                refine AllReadyH.cons rfl (fun K hK => ?_) ?_
                                · refine app_step (by rfl) _ _ 56 (by rfl) B 37 i1 (.slice none 0 0) 24 Tryd.underlying56 hi1 hy0 hy1 hy2 rfl (.slice aW Wr.length capW) Wr.length Wr (by rfl) (own_kept HK6.out.oW (HO9.out.alloc _) (Nat.zero_le _)) ⟨w9.heap.size, 0, none⟩ 2 2 [.slice (some ⟨ga8, 0, none⟩) n cap8, .slice (some ⟨gb9, 0, none⟩) n cap9] (by rfl) (by rfl) (two_cells _ _ _ _) (two_one rfl rfl) (by decide) (by unfold maxLen; have := HkL.out; have := Hk1.out; omega) (by have := HkL.out; have := Hk1.out; omega) (by have := HSz.out; have := HO9.out.size; simp; omega) ?_
                                  intro gX capX wX ownX grX
                                  obtain ⟨hbX, colX, fxX, kfX, lfX, cfX⟩ := were_two HK6.out ⟨(by show (if Wr.length + 0 < L.length then C (Wr.length + 0) else _) = _; rw [if_neg (by have := Hk1.out; omega)]), (by show (if Wr.length + 1 < L.length then C (Wr.length + 1) else _) = _; rw [if_neg (by have := Hk1.out; omega)])⟩ HL6.out HC6.out HO8.out HL8.out HO89.out HL9.out ((Out.refl 0 0 _).alloc _) ownX grX
                                  obtain ⟨_, y1, _, y3, _, _, yf⟩ := keep_cells hbX
                                  have yf3 := yf 3
                                  have y2 : wX.cell? ⟨d.br, 0, none⟩ = some (.slice (some ⟨d.bwr, 0, none⟩) n capq) := by
                                    rw [← World.cell?_of_block (w := wX) (a := ⟨d.br, 0, none⟩) (Below.heap_setCell wX ⟨d.b, 3, none⟩ (.slice (some ⟨gX, 0, none⟩) (Wr.length + 2) capX) d.br HNe.out)]
                                    exact fxX.cell t0 H67.out.2.2.1
                                  obtain ⟨_, z1, _, _, _, _, _⟩ := keep_cells kfX.hb
                                  have z2 := fxX.cell t0 H67.out.2.2.1
                                  have HKX := hid_mk kfX
                                  have HFX := hid_mk (HF6.out.trans fxX)
                                  have HLX := hid_mk lfX
                                  have HCX := hid_mk cfX
                                  clear hbX fxX kfX lfX cfX yf ownX grX
                                  refine hK.out _ _ ?hS122 (fun hHeld2 => ?rest122)
                                  case hS122 => exact ⟨y1, y2⟩
                                  clear hK K
                                  (try clear hHeld)
                                  have hHeld := hHeld2
                                  clear hHeld2
                                  (try simp only [Act.put, List.getElem_toArray, List.getElem_cons_zero, List.getElem_cons_succ, List.setIfInBounds_toArray, List.set_cons_zero, List.set_cons_succ])
                                  refine wpAnyH_take (i := 23) (v := ?v123) rfl (by kernel_rfl) (by kernel_rfl) (by kernel_rfl) (fun _ _ _ h => h) (Or.inl ⟨by rfl, ?hy123⟩) (by assumption) ?rest123
                                  case hy123 => (intro w hSw; (try dsimp only at hSw); simp only [List.getElem_toArray, List.getElem_cons_zero, List.getElem_cons_succ]; go_simp; (try with_reducible rfl))
                                  (try simp only [Act.put, List.getElem_toArray, List.getElem_cons_zero, List.getElem_cons_succ, List.setIfInBounds_toArray, List.set_cons_zero, List.set_cons_succ])
                                  refine wpAnyH_take (i := 24) (v := ?v124) rfl (by kernel_rfl) (by kernel_rfl) (by kernel_rfl) (fun _ _ _ h => h) (Or.inl ⟨by rfl, ?hy124⟩) (by assumption) ?rest124
                                  case hy124 => (intro w hSw; (try dsimp only at hSw); simp only [List.getElem_toArray, List.getElem_cons_zero, List.getElem_cons_succ]; go_simp; (try with_reducible rfl))
                                  (try simp only [Act.put, List.getElem_toArray, List.getElem_cons_zero, List.getElem_cons_succ, List.setIfInBounds_toArray, List.set_cons_zero, List.set_cons_succ])
                                  refine wpAnyH_ready (rs := [25]) (by kernel_rfl) (by simp) ?_
                                  refine AllReadyH.cons rfl (fun K hK => ?_) ?_
                                  · simp only [List.getElem_toArray, List.getElem_cons_zero, List.getElem_cons_succ]
                                    go_simp
                                    refine hK.out _ _ ?hS125 (fun hHeld2 => ?rest125)
                                    case hS125 => exact ⟨z1, z2⟩
                                    clear hK K
                                    (try clear hHeld)
                                    have hHeld := hHeld2
                                    clear hHeld2
                                    (try simp only [Act.put, List.getElem_toArray, List.getElem_cons_zero, List.getElem_cons_succ, List.setIfInBounds_toArray, List.set_cons_zero, List.set_cons_succ])
                                    refine wpAnyH_done (by kernel_rfl) ?_ _
                                    obtain ⟨W10, hW10⟩ : ∃ W10, wX.setCell ⟨d.b, 3, none⟩ (.slice (some ⟨gX, 0, none⟩) (Wr.length + 2) capX) = W10 := ⟨_, rfl⟩
                                    rw [hW10] at HKX HFX HLX ⊢
                                    have HMk := hid_mk (mark_any HKX.out HLX.out HCX.out Hk3.out (by have := Hk3.out; have := HnS.out; omega) (by rw [pgl_len]; omega))
                                    clear hW10 y1 y2 y3 yf3 z1 z2 hHeld m1 m2 m3 u1 u2 u3 u1' u2' u3' s1 s3 t0
                                    go_wp2_with (go_at_call 29; refine HMk.out.mono ?_; rintro e w11 ⟨rfl, hme⟩)
                                    go_ret
                                    obtain ⟨xS, xM, xLs, xMk, xcol, k1, k2, k3, k4⟩ := hme
                                    exact ⟨rfl, _, (Act.quiet HP.out HO1.out).trans (HP1.out.fixed (HFX.out.trans k4) k1 (fun _ => by rw [List.length_append, List.length_append, Hk1.out]; rfl) rfl k2 k3 (look_nums HN.out HU.out Hk2.out Hk3.out Hk4.out HnS.out (by omega))), rfl⟩
                                  · exact AllReadyH.nil
                                · exact AllReadyH.nil
                              · exact AllReadyH.nil
                            · exact AllReadyH.nil
                        · exact AllReadyH.nil
                    · exact AllReadyH.nil
                · exact AllReadyH.nil
              · exact AllReadyH.nil
            · exact AllReadyH.nil
          · exact AllReadyH.nil
        · refine AllReadyH.cons rfl (fun K hK => ?_) ?_
          · simp only [List.getElem_toArray, List.getElem_cons_zero, List.getElem_cons_succ]
            go_simp
            refine (HA.out _ ?hw126).mono ?_
            (case hw126 => exact HOa.out.trans HO4.out)
            rintro e w5 ⟨gb, capb, rfl, hl5, ho5⟩
            have HL5 := hid_mk hl5
            have HO45 := hid_mk ho5
            have HO5 := hid_mk (HO4.out.trans ho5)
            have k0 := HO5.out.cell e0 (.inr (Nat.zero_le _))
            have k2 := HO5.out.cell e2 (.inr (Nat.zero_le _))
            have k0' := (HO5.out.alloc (.cells #[.slice (some ⟨ga, 0, none⟩) n capa, .slice (some ⟨gb, 0, none⟩) n capb] 37)).cell e0 (.inr (Nat.zero_le _))
            have k2' := (HO5.out.alloc (.cells #[.slice (some ⟨ga, 0, none⟩) n capa, .slice (some ⟨gb, 0, none⟩) n capb] 37)).cell e2 (.inr (Nat.zero_le _))
            clear hl5 ho5
            go_wp2_with fail
            refine hK.out _ _ ?hS126 (fun hHeld2 => ?rest126)
            case hS126 => exact k0
            clear hK K
            (try clear hHeld)
            have hHeld := hHeld2
            clear hHeld2
            (try simp only [Act.put, List.getElem_toArray, List.getElem_cons_zero, List.getElem_cons_succ, List.setIfInBounds_toArray, List.set_cons_zero, List.set_cons_succ])
            refine wpAnyH_ready (rs := [4, 15]) (by kernel_rfl) (by simp) ?_
            refine AllReadyH.cons rfl (fun K hK => ?_) ?_
            · simp only [List.getElem_toArray, List.getElem_cons_zero, List.getElem_cons_succ]
              go_simp
              refine hK.out _ _ ?hS127 (fun hHeld2 => ?rest127)
              case hS127 => assumption
              clear hK K
              (try clear hHeld)
              have hHeld := hHeld2
              clear hHeld2
              (try simp only [Act.put, List.getElem_toArray, List.getElem_cons_zero, List.getElem_cons_succ, List.setIfInBounds_toArray, List.set_cons_zero, List.set_cons_succ])
              refine wpAnyH_ready (rs := [15]) (by kernel_rfl) (by simp) ?_
              refine AllReadyH.cons rfl (fun K hK => ?_) ?_
              · simp only [List.getElem_toArray, List.getElem_cons_zero, List.getElem_cons_succ]
                go_simp
                refine hK.out _ _ ?hS128 (fun hHeld2 => ?rest128)
                case hS128 => exact k0'
                clear hK K
                (try clear hHeld)
                have hHeld := hHeld2
                clear hHeld2
                (try simp only [Act.put, List.getElem_toArray, List.getElem_cons_zero, List.getElem_cons_succ, List.setIfInBounds_toArray, List.set_cons_zero, List.set_cons_succ])
                refine wpAnyH_ready (rs := [16]) (by kernel_rfl) (by simp) ?_
                refine AllReadyH.cons rfl (fun K hK => ?_) ?_
                · refine app_step (by rfl) _ _ 56 (by rfl) B 37 i1 (.slice none 0 0) 24 Tryd.underlying56 hi1 hy0 hy1 hy2 rfl (.slice aL L.length capL) L.length L (by rfl) (own_kept HK.out.oL ((HOa.out.trans HO5.out).alloc _) (Nat.zero_le _)) ⟨w5.heap.size, 0, none⟩ 2 2 [.slice (some ⟨ga, 0, none⟩) n capa, .slice (some ⟨gb, 0, none⟩) n capb] (by rfl) (by rfl) (two_cells _ _ _ _) (two_one rfl rfl) (by decide) (by unfold maxLen; have := HkL.out; omega) (by have := HkL.out; omega) (by have := HB.out; have := HOa.out.size; have := HO5.out.size; simp; omega) ?_
                  intro g6 cap6 w6 own6 gr6
                  obtain ⟨hb6, col6, fx6, kf6, lf6, cf6⟩ := left_two HK.out Hk1.out (by rw [pgl_len]; omega) HO2.out HL2.out (HO3.out.trans HO4.out) (own_mono HL4.out HO3.out.size) HO45.out HL5.out ((Out.refl 0 0 _).alloc _) own6 gr6
                  obtain ⟨q0, _, q2, _, _, _, qf⟩ := keep_cells hb6
                  have qf2 := qf 2
                  obtain ⟨s0, s1, _, s3, _, _, _⟩ := keep_cells kf6.hb
                  have HK6 := hid_mk kf6
                  have HF6 := hid_mk fx6
                  have HL6 := hid_mk lf6
                  have HC6 := hid_mk cf6
                  clear hb6 fx6 kf6 lf6 cf6 qf own6 gr6
                  refine hK.out _ _ ?hS129 (fun hHeld2 => ?rest129)
                  case hS129 => exact q0
                  clear hK K
                  (try clear hHeld)
                  have hHeld := hHeld2
                  clear hHeld2
                  (try simp only [Act.put, List.getElem_toArray, List.getElem_cons_zero, List.getElem_cons_succ, List.setIfInBounds_toArray, List.set_cons_zero, List.set_cons_succ])
                  refine wpAnyH_take (i := 17) (v := ?v130) rfl (by kernel_rfl) (by kernel_rfl) (by kernel_rfl) (fun _ _ _ h => h) (Or.inl ⟨by rfl, ?hy130⟩) (by assumption) ?rest130
                  case hy130 => (intro w hSw; (try dsimp only at hSw); simp only [List.getElem_toArray, List.getElem_cons_zero, List.getElem_cons_succ]; go_simp; (try with_reducible rfl))
                  (try simp only [Act.put, List.getElem_toArray, List.getElem_cons_zero, List.getElem_cons_succ, List.setIfInBounds_toArray, List.set_cons_zero, List.set_cons_succ])
                  refine wpAnyH_take (i := 18) (v := ?v131) rfl (by kernel_rfl) (by kernel_rfl) (by kernel_rfl) (fun _ _ _ h => h) (Or.inl ⟨by rfl, ?hy131⟩) (by assumption) ?rest131
                  case hy131 => (intro w hSw; (try dsimp only at hSw); simp only [List.getElem_toArray, List.getElem_cons_zero, List.getElem_cons_succ]; go_simp; (try with_reducible rfl))
                  (try simp only [Act.put, List.getElem_toArray, List.getElem_cons_zero, List.getElem_cons_succ, List.setIfInBounds_toArray, List.set_cons_zero, List.set_cons_succ])
                  refine wpAnyH_ready (rs := [19]) (by kernel_rfl) (by simp) ?_
                  refine AllReadyH.cons rfl (fun K hK => ?_) ?_
                  · simp only [List.getElem_toArray, List.getElem_cons_zero, List.getElem_cons_succ]
                    go_simp
                    refine hK.out _ _ ?hS132 (fun hHeld2 => ?rest132)
                    case hS132 => exact s0
                    clear hK K
                    (try clear hHeld)
                    have hHeld := hHeld2
                    clear hHeld2
                    (try simp only [Act.put, List.getElem_toArray, List.getElem_cons_zero, List.getElem_cons_succ, List.setIfInBounds_toArray, List.set_cons_zero, List.set_cons_succ])
                    refine wpAnyH_done (by kernel_rfl) ?_ _
                    obtain ⟨W7, hW7⟩ : ∃ W7, w6.setCell ⟨d.b, 2, none⟩ (.slice (some ⟨g6, 0, none⟩) (L.length + 2) cap6) = W7 := ⟨_, rfl⟩
                    rw [hW7] at HK6 HF6 HL6 s0 s1 s3 ⊢
                    have HTr := hid_mk (HF6.out.table HP1.out.2.2.2.1 HP1.out.2.2.2.2.1.2.2.1 HP1.out.2.2.2.2.1.2.2.2)
                    obtain ⟨capq, t0, _⟩ := HTr.out.cell
                    rw [Hn.out] at t0 HTr
                    have HSz : Hid (B ≤ W7.heap.size) := HK6.out.hB
                    clear hW7 q0 q2 qf2 s0 hHeld e0 e2 f0 f2 k0 k2 k0' k2'
                    go_wp2_with fail
                    have HRow : Hid (∀ w', Out 0 0 W7 w' → PRow w' d.bwr n d.S) := fun w' o => (HTr.out.quiet o).row
                    have HN1 : Hid (1 ≤ n ∧ n ≤ 4096) := ⟨HTr.out.nums.1, HTr.out.nums.2.1⟩
                    have HNe : Hid (d.br ≠ d.b) := fun e => by have h0 := HP1.out.col0.1; rw [← e, HP1.out.2.2.2.2.1.2.2.1] at h0; cases h0
                    have H67 : Hid (col6 d.bt = 7 ∧ col6 d.bwt = 7 ∧ col6 d.br = 7 ∧ col6 d.bwr = 7) := by
                      have l := HP1.out.lt
                      have c := HP1.out.2.2.2.2.1
                      exact ⟨HF6.out.2 _ l.1 c.1, HF6.out.2 _ l.2.1 c.2.1, HF6.out.2 _ l.2.2.1 c.2.2.1, HF6.out.2 _ l.2.2.2 c.2.2.2⟩
                    refine wp_region_held_drew (S := fun w' => w'.cell? ⟨d.b, 1, none⟩ = some (.pointer (some ⟨d.br, 0, none⟩)) ∧ w'.cell? ⟨d.br, 0, none⟩ = some (.slice (some ⟨d.bwr, 0, none⟩) n capq)) (by kernel_rfl) ?hS133 (fun hHeld => ?rest133)
                    case hS133 => exact ⟨s1, t0⟩
                    refine wpAnyH_take (i := 0) (v := ?v134) rfl (by kernel_rfl) (by kernel_rfl) (by kernel_rfl) (fun _ _ _ h => h) (Or.inl ⟨by rfl, ?hy134⟩) (by assumption) ?rest134
                    case hy134 => (intro w hSw; (try dsimp only at hSw); simp only [List.getElem_toArray, List.getElem_cons_zero, List.getElem_cons_succ]; go_simp; (try with_reducible rfl))
                    (try simp only [Act.put, List.getElem_toArray, List.getElem_cons_zero, List.getElem_cons_succ, List.setIfInBounds_toArray, List.set_cons_zero, List.set_cons_succ])
                    refine wpAnyH_take (i := 1) (v := ?v135) rfl (by kernel_rfl) (by kernel_rfl) (by kernel_rfl) (fun _ _ _ h => h) (Or.inl ⟨by rfl, ?hy135⟩) (by assumption) ?rest135
                    case hy135 => (intro w hSw; (try dsimp only at hSw); simp only [List.getElem_toArray, List.getElem_cons_zero, List.getElem_cons_succ]; go_simp; (try with_reducible rfl))
                    (try simp only [Act.put, List.getElem_toArray, List.getElem_cons_zero, List.getElem_cons_succ, List.setIfInBounds_toArray, List.set_cons_zero, List.set_cons_succ])
                    refine wpAnyH_take (i := 2) (v := ?v136) rfl (by kernel_rfl) (by kernel_rfl) (by kernel_rfl) (fun _ _ _ h => h) (Or.inl ⟨by rfl, ?hy136⟩) (by assumption) ?rest136
                    case hy136 => (intro w hSw; (try dsimp only at hSw); simp only [List.getElem_toArray, List.getElem_cons_zero, List.getElem_cons_succ]; go_simp; (try with_reducible rfl))
                    (try simp only [Act.put, List.getElem_toArray, List.getElem_cons_zero, List.getElem_cons_succ, List.setIfInBounds_toArray, List.set_cons_zero, List.set_cons_succ])
                    refine wpAnyH_take (i := 3) (v := ?v137) rfl (by kernel_rfl) (by kernel_rfl) (by kernel_rfl) (fun _ _ _ h => h) (Or.inl ⟨by rfl, ?hy137⟩) (by assumption) ?rest137
                    case hy137 => (intro w hSw; (try dsimp only at hSw); simp only [List.getElem_toArray, List.getElem_cons_zero, List.getElem_cons_succ]; go_simp; (try with_reducible rfl))
                    (try simp only [Act.put, List.getElem_toArray, List.getElem_cons_zero, List.getElem_cons_succ, List.setIfInBounds_toArray, List.set_cons_zero, List.set_cons_succ])
                    refine wpAnyH_take (i := 5) (v := ?v138) rfl (by kernel_rfl) (by kernel_rfl) (by kernel_rfl) (fun _ _ _ h => h) (Or.inl ⟨by rfl, ?hy138⟩) (by assumption) ?rest138
                    case hy138 => (intro w hSw; (try dsimp only at hSw); simp only [List.getElem_toArray, List.getElem_cons_zero, List.getElem_cons_succ]; go_simp; (try with_reducible rfl))
                    (try simp only [Act.put, List.getElem_toArray, List.getElem_cons_zero, List.getElem_cons_succ, List.setIfInBounds_toArray, List.set_cons_zero, List.set_cons_succ])
                    refine wpAnyH_take (i := 6) (v := ?v139) rfl (by kernel_rfl) (by kernel_rfl) (by kernel_rfl) (fun _ _ _ h => h) (Or.inl ⟨by rfl, ?hy139⟩) (by assumption) ?rest139
                    case hy139 => (intro w hSw; (try dsimp only at hSw); simp only [List.getElem_toArray, List.getElem_cons_zero, List.getElem_cons_succ]; go_simp; (try with_reducible rfl))
                    (try simp only [Act.put, List.getElem_toArray, List.getElem_cons_zero, List.getElem_cons_succ, List.setIfInBounds_toArray, List.set_cons_zero, List.set_cons_succ])
                    refine wpAnyH_take (i := 7) (v := ?v140) rfl (by kernel_rfl) (by kernel_rfl) (by kernel_rfl) (fun _ _ _ h => h) (Or.inl ⟨by rfl, ?hy140⟩) (by assumption) ?rest140
                    case hy140 => (intro w hSw; (try dsimp only at hSw); simp only [List.getElem_toArray, List.getElem_cons_zero, List.getElem_cons_succ]; go_simp; (try with_reducible rfl))
                    (try simp only [Act.put, List.getElem_toArray, List.getElem_cons_zero, List.getElem_cons_succ, List.setIfInBounds_toArray, List.set_cons_zero, List.set_cons_succ])
                    refine wpAnyH_take (i := 8) (v := ?v141) rfl (by kernel_rfl) (by kernel_rfl) (by kernel_rfl) (fun _ _ _ h => h) (Or.inl ⟨by rfl, ?hy141⟩) (by assumption) ?rest141
                    case hy141 => (intro w hSw; (try dsimp only at hSw); simp only [List.getElem_toArray, List.getElem_cons_zero, List.getElem_cons_succ]; go_simp; (try with_reducible rfl))
                    (try simp only [Act.put, List.getElem_toArray, List.getElem_cons_zero, List.getElem_cons_succ, List.setIfInBounds_toArray, List.set_cons_zero, List.set_cons_succ])
                    refine wpAnyH_take (i := 9) (v := ?v142) rfl (by kernel_rfl) (by kernel_rfl) (by kernel_rfl) (fun _ _ _ h => h) (Or.inl ⟨by rfl, ?hy142⟩) (by assumption) ?rest142
                    case hy142 => (intro w hSw; (try dsimp only at hSw); simp only [List.getElem_toArray, List.getElem_cons_zero, List.getElem_cons_succ]; go_simp; (try with_reducible rfl))
                    (try simp only [Act.put, List.getElem_toArray, List.getElem_cons_zero, List.getElem_cons_succ, List.setIfInBounds_toArray, List.set_cons_zero, List.set_cons_succ])
                    refine wpAnyH_take (i := 10) (v := ?v143) rfl (by kernel_rfl) (by kernel_rfl) (by kernel_rfl) (fun _ _ _ h => h) (Or.inl ⟨by rfl, ?hy143⟩) (by assumption) ?rest143
                    case hy143 => (intro w hSw; (try dsimp only at hSw); simp only [List.getElem_toArray, List.getElem_cons_zero, List.getElem_cons_succ]; go_simp; (try with_reducible rfl))
                    (try simp only [Act.put, List.getElem_toArray, List.getElem_cons_zero, List.getElem_cons_succ, List.setIfInBounds_toArray, List.set_cons_zero, List.set_cons_succ])
                    refine wpAnyH_take (i := 11) (v := ?v144) rfl (by kernel_rfl) (by kernel_rfl) (by kernel_rfl) (fun _ _ _ h => h) (Or.inl ⟨by rfl, ?hy144⟩) (by assumption) ?rest144
                    case hy144 => (intro w hSw; (try dsimp only at hSw); simp only [List.getElem_toArray, List.getElem_cons_zero, List.getElem_cons_succ]; go_simp; (try with_reducible rfl))
                    (try simp only [Act.put, List.getElem_toArray, List.getElem_cons_zero, List.getElem_cons_succ, List.setIfInBounds_toArray, List.set_cons_zero, List.set_cons_succ])
                    refine wpAnyH_take (i := 13) (v := ?v145) rfl (by kernel_rfl) (by kernel_rfl) (by kernel_rfl) (fun _ _ _ h => h) (Or.inl ⟨by rfl, ?hy145⟩) (by assumption) ?rest145
                    case hy145 => (intro w hSw; (try dsimp only at hSw); simp only [List.getElem_toArray, List.getElem_cons_zero, List.getElem_cons_succ]; go_simp; (try with_reducible rfl))
                    (try simp only [Act.put, List.getElem_toArray, List.getElem_cons_zero, List.getElem_cons_succ, List.setIfInBounds_toArray, List.set_cons_zero, List.set_cons_succ])
                    refine wpAnyH_take (i := 14) (v := ?v146) rfl (by kernel_rfl) (by kernel_rfl) (by kernel_rfl) (fun _ _ _ h => h) (Or.inl ⟨by rfl, ?hy146⟩) (by assumption) ?rest146
                    case hy146 => (intro w hSw; (try dsimp only at hSw); simp only [List.getElem_toArray, List.getElem_cons_zero, List.getElem_cons_succ]; go_simp; (try with_reducible rfl))
                    (try simp only [Act.put, List.getElem_toArray, List.getElem_cons_zero, List.getElem_cons_succ, List.setIfInBounds_toArray, List.set_cons_zero, List.set_cons_succ])
                    refine wpAnyH_take (i := 15) (v := ?v147) rfl (by kernel_rfl) (by kernel_rfl) (by kernel_rfl) (fun _ _ _ h => h) (Or.inl ⟨by rfl, ?hy147⟩) (by assumption) ?rest147
                    case hy147 => (intro w hSw; (try dsimp only at hSw); simp only [List.getElem_toArray, List.getElem_cons_zero, List.getElem_cons_succ]; go_simp; (try with_reducible rfl))
                    (try simp only [Act.put, List.getElem_toArray, List.getElem_cons_zero, List.getElem_cons_succ, List.setIfInBounds_toArray, List.set_cons_zero, List.set_cons_succ])
                    refine wpAnyH_take (i := 16) (v := ?v148) rfl (by kernel_rfl) (by kernel_rfl) (by kernel_rfl) (fun _ _ _ h => h) (Or.inl ⟨by rfl, ?hy148⟩) (by assumption) ?rest148
                    case hy148 => (intro w hSw; (try dsimp only at hSw); simp only [List.getElem_toArray, List.getElem_cons_zero, List.getElem_cons_succ]; go_simp; (try with_reducible rfl))
                    (try simp only [Act.put, List.getElem_toArray, List.getElem_cons_zero, List.getElem_cons_succ, List.setIfInBounds_toArray, List.set_cons_zero, List.set_cons_succ])
                    refine wpAnyH_take (i := 17) (v := ?v149) rfl (by kernel_rfl) (by kernel_rfl) (by kernel_rfl) (fun _ _ _ h => h) (Or.inl ⟨by rfl, ?hy149⟩) (by assumption) ?rest149
                    case hy149 => (intro w hSw; (try dsimp only at hSw); simp only [List.getElem_toArray, List.getElem_cons_zero, List.getElem_cons_succ]; go_simp; (try with_reducible rfl))
                    (try simp only [Act.put, List.getElem_toArray, List.getElem_cons_zero, List.getElem_cons_succ, List.setIfInBounds_toArray, List.set_cons_zero, List.set_cons_succ])
                    refine wpAnyH_take (i := 18) (v := ?v150) rfl (by kernel_rfl) (by kernel_rfl) (by kernel_rfl) (fun _ _ _ h => h) (Or.inl ⟨by rfl, ?hy150⟩) (by assumption) ?rest150
                    case hy150 => (intro w hSw; (try dsimp only at hSw); simp only [List.getElem_toArray, List.getElem_cons_zero, List.getElem_cons_succ]; go_simp; (try with_reducible rfl))
                    (try simp only [Act.put, List.getElem_toArray, List.getElem_cons_zero, List.getElem_cons_succ, List.setIfInBounds_toArray, List.set_cons_zero, List.set_cons_succ])
                    refine wpAnyH_take (i := 19) (v := ?v151) rfl (by kernel_rfl) (by kernel_rfl) (by kernel_rfl) (fun _ _ _ h => h) (Or.inl ⟨by rfl, ?hy151⟩) (by assumption) ?rest151
                    case hy151 => (intro w hSw; (try dsimp only at hSw); simp only [List.getElem_toArray, List.getElem_cons_zero, List.getElem_cons_succ]; go_simp; (try with_reducible rfl))
                    (try simp only [Act.put, List.getElem_toArray, List.getElem_cons_zero, List.getElem_cons_succ, List.setIfInBounds_toArray, List.set_cons_zero, List.set_cons_succ])
                    refine wpAnyH_ready (rs := [4, 12]) (by kernel_rfl) (by simp) ?_
                    refine AllReadyH.cons rfl (fun K hK => ?_) ?_
                    · simp only [List.getElem_toArray, List.getElem_cons_zero, List.getElem_cons_succ]
                      go_simp
                      refine hK.out _ _ ?hS152 (fun hHeld2 => ?rest152)
                      case hS152 => assumption
                      clear hK K
                      (try clear hHeld)
                      have hHeld := hHeld2
                      clear hHeld2
                      (try simp only [Act.put, List.getElem_toArray, List.getElem_cons_zero, List.getElem_cons_succ, List.setIfInBounds_toArray, List.set_cons_zero, List.set_cons_succ])
                      refine wpAnyH_ready (rs := [12]) (by kernel_rfl) (by simp) ?_
                      refine AllReadyH.cons rfl (fun K hK => ?_) ?_
                      · refine pcopy_step (cap := capq) (S := d.S) (by rfl) _ (by rfl) (by rfl) (HRow.out _ (Out.refl 0 0 _).drew) HN1.out.1 HN1.out.2 ?_
                        intro ga8 cap8 w8 ho8 hl8
                        have HL8 : Hid (ListIs w8 W7.heap.size (.slice (some ⟨ga8, 0, none⟩) n cap8) (pgl d.S n)) := hl8
                        have HO8 : Hid (Out 0 0 W7 w8) := (Out.refl 0 0 W7).drew.trans ho8
                        have m1 := HO8.out.cell s1 (.inr (Nat.zero_le _))
                        have m2 := HO8.out.cell t0 (.inr (Nat.zero_le _))
                        have m3 := HO8.out.cell s3 (.inr (Nat.zero_le _))
                        clear hl8 ho8
                        refine hK.out _ _ ?hS153 (fun hHeld2 => ?rest153)
                        case hS153 => exact ⟨m1, m2⟩
                        clear hK K
                        (try clear hHeld)
                        have hHeld := hHeld2
                        clear hHeld2
                        (try simp only [Act.put, List.getElem_toArray, List.getElem_cons_zero, List.getElem_cons_succ, List.setIfInBounds_toArray, List.set_cons_zero, List.set_cons_succ])
                        refine wpAnyH_ready (rs := [20]) (by kernel_rfl) (by simp) ?_
                        refine AllReadyH.cons rfl (fun K hK => ?_) ?_
                        · refine pcopy_step (cap := capq) (S := d.S) (by rfl) _ (by rfl) (by rfl) (HRow.out _ HO8.out) HN1.out.1 HN1.out.2 ?_
                          intro gb9 cap9 w9 ho9 hl9
                          have HL9 := hid_mk hl9
                          have HO89 := hid_mk ho9
                          have HO9 := hid_mk (HO8.out.trans ho9)
                          have u1 := HO9.out.cell s1 (.inr (Nat.zero_le _))
                          have u2 := HO9.out.cell t0 (.inr (Nat.zero_le _))
                          have u3 := HO9.out.cell s3 (.inr (Nat.zero_le _))
                          have u1' := (HO9.out.alloc (.cells #[.slice (some ⟨ga8, 0, none⟩) n cap8, .slice (some ⟨gb9, 0, none⟩) n cap9] 37)).cell s1 (.inr (Nat.zero_le _))
                          have u2' := (HO9.out.alloc (.cells #[.slice (some ⟨ga8, 0, none⟩) n cap8, .slice (some ⟨gb9, 0, none⟩) n cap9] 37)).cell t0 (.inr (Nat.zero_le _))
                          have u3' := (HO9.out.alloc (.cells #[.slice (some ⟨ga8, 0, none⟩) n cap8, .slice (some ⟨gb9, 0, none⟩) n cap9] 37)).cell s3 (.inr (Nat.zero_le _))
                          clear hl9 ho9
                          refine hK.out _ _ ?hS154 (fun hHeld2 => ?rest154)
                          case hS154 => exact ⟨u1, u2⟩
                          clear hK K
                          (try clear hHeld)
                          have hHeld := hHeld2
                          clear hHeld2
                          (try simp only [Act.put, List.getElem_toArray, List.getElem_cons_zero, List.getElem_cons_succ, List.setIfInBounds_toArray, List.set_cons_zero, List.set_cons_succ])
                          refine wpAnyH_ready (rs := [21]) (by kernel_rfl) (by simp) ?_
                          refine AllReadyH.cons rfl (fun K hK => ?_) ?_
                          · simp only [List.getElem_toArray, List.getElem_cons_zero, List.getElem_cons_succ]
                            go_simp
                            refine hK.out _ _ ?hS155 (fun hHeld2 => ?rest155)
                            case hS155 => exact ⟨u1', u2'⟩
                            clear hK K
                            (try clear hHeld)
                            have hHeld := hHeld2
                            clear hHeld2
                            (try simp only [Act.put, List.getElem_toArray, List.getElem_cons_zero, List.getElem_cons_succ, List.setIfInBounds_toArray, List.set_cons_zero, List.set_cons_succ])
                            refine wpAnyH_ready (rs := [22]) (by kernel_rfl) (by simp) ?_
                            refine AllReadyH.cons rfl (fun K hK => ?_) ?_
                            · refine app_step (by rfl) _ _ 56 (by rfl) B 37 i1 (.slice none 0 0) 24 Tryd.underlying56 hi1 hy0 hy1 hy2 rfl (.slice aW Wr.length capW) Wr.length Wr (by rfl) (own_kept HK6.out.oW (HO9.out.alloc _) (Nat.zero_le _)) ⟨w9.heap.size, 0, none⟩ 2 2 [.slice (some ⟨ga8, 0, none⟩) n cap8, .slice (some ⟨gb9, 0, none⟩) n cap9] (by rfl) (by rfl) (two_cells _ _ _ _) (two_one rfl rfl) (by decide) (by unfold maxLen; have := HkL.out; have := Hk1.out; omega) (by have := HkL.out; have := Hk1.out; omega) (by have := HSz.out; have := HO9.out.size; simp; omega) ?_
                              intro gX capX wX ownX grX
                              obtain ⟨hbX, colX, fxX, kfX, lfX, cfX⟩ := were_two HK6.out ⟨(by show (if Wr.length + 0 < L.length then C (Wr.length + 0) else _) = _; rw [if_neg (by have := Hk1.out; omega)]), (by show (if Wr.length + 1 < L.length then C (Wr.length + 1) else _) = _; rw [if_neg (by have := Hk1.out; omega)])⟩ HL6.out HC6.out HO8.out HL8.out HO89.out HL9.out ((Out.refl 0 0 _).alloc _) ownX grX
                              obtain ⟨_, y1, _, y3, _, _, yf⟩ := keep_cells hbX
                              have yf3 := yf 3
                              have y2 : wX.cell? ⟨d.br, 0, none⟩ = some (.slice (some ⟨d.bwr, 0, none⟩) n capq) := by
                                rw [← World.cell?_of_block (w := wX) (a := ⟨d.br, 0, none⟩) (Below.heap_setCell wX ⟨d.b, 3, none⟩ (.slice (some ⟨gX, 0, none⟩) (Wr.length + 2) capX) d.br HNe.out)]
                                exact fxX.cell t0 H67.out.2.2.1
                              obtain ⟨_, z1, _, _, _, _, _⟩ := keep_cells kfX.hb
                              have z2 := fxX.cell t0 H67.out.2.2.1
                              have HKX := hid_mk kfX
                              have HFX := hid_mk (HF6.out.trans fxX)
                              have HLX := hid_mk lfX
                              have HCX := hid_mk cfX
                              clear hbX fxX kfX lfX cfX yf ownX grX
                              refine hK.out _ _ ?hS156 (fun hHeld2 => ?rest156)
                              case hS156 => exact ⟨y1, y2⟩
                              clear hK K
                              (try clear hHeld)
                              have hHeld := hHeld2
                              clear hHeld2
                              (try simp only [Act.put, List.getElem_toArray, List.getElem_cons_zero, List.getElem_cons_succ, List.setIfInBounds_toArray, List.set_cons_zero, List.set_cons_succ])
                              refine wpAnyH_take (i := 23) (v := ?v157) rfl (by kernel_rfl) (by kernel_rfl) (by kernel_rfl) (fun _ _ _ h => h) (Or.inl ⟨by rfl, ?hy157⟩) (by assumption) ?rest157
                              case hy157 => (intro w hSw; (try dsimp only at hSw); simp only [List.getElem_toArray, List.getElem_cons_zero, List.getElem_cons_succ]; go_simp; (try with_reducible rfl))
                              (try simp only [Act.put, List.getElem_toArray, List.getElem_cons_zero, List.getElem_cons_succ, List.setIfInBounds_toArray, List.set_cons_zero, List.set_cons_succ])
                              refine wpAnyH_take (i := 24) (v := ?v158) rfl (by kernel_rfl) (by kernel_rfl) (by kernel_rfl) (fun _ _ _ h => h) (Or.inl ⟨by rfl, ?hy158⟩) (by assumption) ?rest158
                              case hy158 => (intro w hSw; (try dsimp only at hSw); simp only [List.getElem_toArray, List.getElem_cons_zero, List.getElem_cons_succ]; go_simp; (try with_reducible rfl))
                              (try simp only [Act.put, List.getElem_toArray, List.getElem_cons_zero, List.getElem_cons_succ, List.setIfInBounds_toArray, List.set_cons_zero, List.set_cons_succ])
                              refine wpAnyH_ready (rs := [25]) (by kernel_rfl) (by simp) ?_
                              refine AllReadyH.cons rfl (fun K hK => ?_) ?_
                              · simp only [List.getElem_toArray, List.getElem_cons_zero, List.getElem_cons_succ]
                                go_simp
                                refine hK.out _ _ ?hS159 (fun hHeld2 => ?rest159)
                                case hS159 => exact ⟨z1, z2⟩
                                clear hK K
                                (try clear hHeld)
                                have hHeld := hHeld2
                                clear hHeld2
                                (try simp only [Act.put, List.getElem_toArray, List.getElem_cons_zero, List.getElem_cons_succ, List.setIfInBounds_toArray, List.set_cons_zero, List.set_cons_succ])
                                refine wpAnyH_done (by kernel_rfl) ?_ _
                                obtain ⟨W10, hW10⟩ : ∃ W10, wX.setCell ⟨d.b, 3, none⟩ (.slice (some ⟨gX, 0, none⟩) (Wr.length + 2) capX) = W10 := ⟨_, rfl⟩
                                rw [hW10] at HKX HFX HLX ⊢
                                have HMk := hid_mk (mark_any HKX.out HLX.out HCX.out Hk3.out (by have := Hk3.out; have := HnS.out; omega) (by rw [pgl_len]; omega))
                                clear hW10 y1 y2 y3 yf3 z1 z2 hHeld m1 m2 m3 u1 u2 u3 u1' u2' u3' s1 s3 t0
                                go_wp2_with (go_at_call 29; refine HMk.out.mono ?_; rintro e w11 ⟨rfl, hme⟩)
                                go_ret
                                obtain ⟨xS, xM, xLs, xMk, xcol, k1, k2, k3, k4⟩ := hme
                                exact ⟨rfl, _, (Act.quiet HP.out HO1.out).trans (HP1.out.fixed (HFX.out.trans k4) k1 (fun _ => by rw [List.length_append, List.length_append, Hk1.out]; rfl) rfl k2 k3 (look_nums HN.out HU.out Hk2.out Hk3.out Hk4.out HnS.out (by omega))), rfl⟩
                              · exact AllReadyH.nil
                            · exact AllReadyH.nil
                          · exact AllReadyH.nil
                        · exact AllReadyH.nil
                      · exact AllReadyH.nil
                    · refine AllReadyH.cons rfl (fun K hK => ?_) ?_
                      · refine pcopy_step (cap := capq) (S := d.S) (by rfl) _ (by rfl) (by rfl) (HRow.out _ (Out.refl 0 0 _).drew) HN1.out.1 HN1.out.2 ?_
                        intro ga8 cap8 w8 ho8 hl8
                        have HL8 : Hid (ListIs w8 W7.heap.size (.slice (some ⟨ga8, 0, none⟩) n cap8) (pgl d.S n)) := hl8
                        have HO8 : Hid (Out 0 0 W7 w8) := (Out.refl 0 0 W7).drew.trans ho8
                        have m1 := HO8.out.cell s1 (.inr (Nat.zero_le _))
                        have m2 := HO8.out.cell t0 (.inr (Nat.zero_le _))
                        have m3 := HO8.out.cell s3 (.inr (Nat.zero_le _))
                        clear hl8 ho8
                        refine hK.out _ _ ?hS160 (fun hHeld2 => ?rest160)
                        case hS160 => exact ⟨m1, m2⟩
                        clear hK K
                        (try clear hHeld)
                        have hHeld := hHeld2
                        clear hHeld2
                        (try simp only [Act.put, List.getElem_toArray, List.getElem_cons_zero, List.getElem_cons_succ, List.setIfInBounds_toArray, List.set_cons_zero, List.set_cons_succ])
                        refine wpAnyH_ready (rs := [4, 20]) (by kernel_rfl) (by simp) ?_
                        refine AllReadyH.cons rfl (fun K hK => ?_) ?_
                        · simp only [List.getElem_toArray, List.getElem_cons_zero, List.getElem_cons_succ]
                          go_simp
                          refine hK.out _ _ ?hS161 (fun hHeld2 => ?rest161)
                          case hS161 => assumption
                          clear hK K
                          (try clear hHeld)
                          have hHeld := hHeld2
                          clear hHeld2
                          (try simp only [Act.put, List.getElem_toArray, List.getElem_cons_zero, List.getElem_cons_succ, List.setIfInBounds_toArray, List.set_cons_zero, List.set_cons_succ])
                          refine wpAnyH_ready (rs := [20]) (by kernel_rfl) (by simp) ?_
                          refine AllReadyH.cons rfl (fun K hK => ?_) ?_
                          · refine pcopy_step (cap := capq) (S := d.S) (by rfl) _ (by rfl) (by rfl) (HRow.out _ HO8.out) HN1.out.1 HN1.out.2 ?_
                            intro gb9 cap9 w9 ho9 hl9
                            have HL9 := hid_mk hl9
                            have HO89 := hid_mk ho9
                            have HO9 := hid_mk (HO8.out.trans ho9)
                            have u1 := HO9.out.cell s1 (.inr (Nat.zero_le _))
                            have u2 := HO9.out.cell t0 (.inr (Nat.zero_le _))
                            have u3 := HO9.out.cell s3 (.inr (Nat.zero_le _))
                            have u1' := (HO9.out.alloc (.cells #[.slice (some ⟨ga8, 0, none⟩) n cap8, .slice (some ⟨gb9, 0, none⟩) n cap9] 37)).cell s1 (.inr (Nat.zero_le _))
                            have u2' := (HO9.out.alloc (.cells #[.slice (some ⟨ga8, 0, none⟩) n cap8, .slice (some ⟨gb9, 0, none⟩) n cap9] 37)).cell t0 (.inr (Nat.zero_le _))
                            have u3' := (HO9.out.alloc (.cells #[.slice (some ⟨ga8, 0, none⟩) n cap8, .slice (some ⟨gb9, 0, none⟩) n cap9] 37)).cell s3 (.inr (Nat.zero_le _))
                            clear hl9 ho9
                            refine hK.out _ _ ?hS162 (fun hHeld2 => ?rest162)
                            case hS162 => exact ⟨u1, u2⟩
                            clear hK K
                            (try clear hHeld)
                            have hHeld := hHeld2
                            clear hHeld2
                            (try simp only [Act.put, List.getElem_toArray, List.getElem_cons_zero, List.getElem_cons_succ, List.setIfInBounds_toArray, List.set_cons_zero, List.set_cons_succ])
                            refine wpAnyH_ready (rs := [21]) (by kernel_rfl) (by simp) ?_
                            refine AllReadyH.cons rfl (fun K hK => ?_) ?_
                            · simp only [List.getElem_toArray, List.getElem_cons_zero, List.getElem_cons_succ]
                              go_simp
                              refine hK.out _ _ ?hS163 (fun hHeld2 => ?rest163)
                              case hS163 => exact ⟨u1', u2'⟩
                              clear hK K
                              (try clear hHeld)
                              have hHeld := hHeld2
                              clear hHeld2
                              (try simp only [Act.put, List.getElem_toArray, List.getElem_cons_zero, List.getElem_cons_succ, List.setIfInBounds_toArray, List.set_cons_zero, List.set_cons_succ])
                              refine wpAnyH_ready (rs := [22]) (by kernel_rfl) (by simp) ?_
                              refine AllReadyH.cons rfl (fun K hK => ?_) ?_
                              · refine app_step (by rfl) _ _ 56 (by rfl) B 37 i1 (.slice none 0 0) 24 Tryd.underlying56 hi1 hy0 hy1 hy2 rfl (.slice aW Wr.length capW) Wr.length Wr (by rfl) (own_kept HK6.out.oW (HO9.out.alloc _) (Nat.zero_le _)) ⟨w9.heap.size, 0, none⟩ 2 2 [.slice (some ⟨ga8, 0, none⟩) n cap8, .slice (some ⟨gb9, 0, none⟩) n cap9] (by rfl) (by rfl) (two_cells _ _ _ _) (two_one rfl rfl) (by decide) (by unfold maxLen; have := HkL.out; have := Hk1.out; omega) (by have := HkL.out; have := Hk1.out; omega) (by have := HSz.out; have := HO9.out.size; simp; omega) ?_
                                intro gX capX wX ownX grX
                                obtain ⟨hbX, colX, fxX, kfX, lfX, cfX⟩ := were_two HK6.out ⟨(by show (if Wr.length + 0 < L.length then C (Wr.length + 0) else _) = _; rw [if_neg (by have := Hk1.out; omega)]), (by show (if Wr.length + 1 < L.length then C (Wr.length + 1) else _) = _; rw [if_neg (by have := Hk1.out; omega)])⟩ HL6.out HC6.out HO8.out HL8.out HO89.out HL9.out ((Out.refl 0 0 _).alloc _) ownX grX
                                obtain ⟨_, y1, _, y3, _, _, yf⟩ := keep_cells hbX
                                have yf3 := yf 3
                                have y2 : wX.cell? ⟨d.br, 0, none⟩ = some (.slice (some ⟨d.bwr, 0, none⟩) n capq) := by
                                  rw [← World.cell?_of_block (w := wX) (a := ⟨d.br, 0, none⟩) (Below.heap_setCell wX ⟨d.b, 3, none⟩ (.slice (some ⟨gX, 0, none⟩) (Wr.length + 2) capX) d.br HNe.out)]
                                  exact fxX.cell t0 H67.out.2.2.1
                                obtain ⟨_, z1, _, _, _, _, _⟩ := keep_cells kfX.hb
                                have z2 := fxX.cell t0 H67.out.2.2.1
                                have HKX := hid_mk kfX
                                have HFX := hid_mk (HF6.out.trans fxX)
                                have HLX := hid_mk lfX
                                have HCX := hid_mk cfX
                                clear hbX fxX kfX lfX cfX yf ownX grX
                                refine hK.out _ _ ?hS164 (fun hHeld2 => ?rest164)
                                case hS164 => exact ⟨y1, y2⟩
                                clear hK K
                                (try clear hHeld)
                                have hHeld := hHeld2
                                clear hHeld2
                                (try simp only [Act.put, List.getElem_toArray, List.getElem_cons_zero, List.getElem_cons_succ, List.setIfInBounds_toArray, List.set_cons_zero, List.set_cons_succ])
                                refine wpAnyH_take (i := 23) (v := ?v165) rfl (by kernel_rfl) (by kernel_rfl) (by kernel_rfl) (fun _ _ _ h => h) (Or.inl ⟨by rfl, ?hy165⟩) (by assumption) ?rest165
                                case hy165 => (intro w hSw; (try dsimp only at hSw); simp only [List.getElem_toArray, List.getElem_cons_zero, List.getElem_cons_succ]; go_simp; (try with_reducible rfl))
                                (try simp only [Act.put, List.getElem_toArray, List.getElem_cons_zero, List.getElem_cons_succ, List.setIfInBounds_toArray, List.set_cons_zero, List.set_cons_succ])
                                refine wpAnyH_take (i := 24) (v := ?v166) rfl (by kernel_rfl) (by kernel_rfl) (by kernel_rfl) (fun _ _ _ h => h) (Or.inl ⟨by rfl, ?hy166⟩) (by assumption) ?rest166
                                case hy166 => (intro w hSw; (try dsimp only at hSw); simp only [List.getElem_toArray, List.getElem_cons_zero, List.getElem_cons_succ]; go_simp; (try with_reducible rfl))
                                (try simp only [Act.put, List.getElem_toArray, List.getElem_cons_zero, List.getElem_cons_succ, List.setIfInBounds_toArray, List.set_cons_zero, List.set_cons_succ])
                                refine wpAnyH_ready (rs := [25]) (by kernel_rfl) (by simp) ?_
                                refine AllReadyH.cons rfl (fun K hK => ?_) ?_
                                · simp only [List.getElem_toArray, List.getElem_cons_zero, List.getElem_cons_succ]
                                  go_simp
                                  refine hK.out _ _ ?hS167 (fun hHeld2 => ?rest167)
                                  case hS167 => exact ⟨z1, z2⟩
                                  clear hK K
                                  (try clear hHeld)
                                  have hHeld := hHeld2
                                  clear hHeld2
                                  (try simp only [Act.put, List.getElem_toArray, List.getElem_cons_zero, List.getElem_cons_succ, List.setIfInBounds_toArray, List.set_cons_zero, List.set_cons_succ])
                                  refine wpAnyH_done (by kernel_rfl) ?_ _
                                  obtain ⟨W10, hW10⟩ : ∃ W10, wX.setCell ⟨d.b, 3, none⟩ (.slice (some ⟨gX, 0, none⟩) (Wr.length + 2) capX) = W10 := ⟨_, rfl⟩
                                  rw [hW10] at HKX HFX HLX ⊢
                                  have HMk := hid_mk (mark_any HKX.out HLX.out HCX.out Hk3.out (by have := Hk3.out; have := HnS.out; omega) (by rw [pgl_len]; omega))
                                  clear hW10 y1 y2 y3 yf3 z1 z2 hHeld m1 m2 m3 u1 u2 u3 u1' u2' u3' s1 s3 t0
                                  go_wp2_with (go_at_call 29; refine HMk.out.mono ?_; rintro e w11 ⟨rfl, hme⟩)
                                  go_ret
                                  obtain ⟨xS, xM, xLs, xMk, xcol, k1, k2, k3, k4⟩ := hme
                                  exact ⟨rfl, _, (Act.quiet HP.out HO1.out).trans (HP1.out.fixed (HFX.out.trans k4) k1 (fun _ => by rw [List.length_append, List.length_append, Hk1.out]; rfl) rfl k2 k3 (look_nums HN.out HU.out Hk2.out Hk3.out Hk4.out HnS.out (by omega))), rfl⟩
                                · exact AllReadyH.nil
                              · exact AllReadyH.nil
                            · exact AllReadyH.nil
                          · exact AllReadyH.nil
                        · refine AllReadyH.cons rfl (fun K hK => ?_) ?_
                          · refine pcopy_step (cap := capq) (S := d.S) (by rfl) _ (by rfl) (by rfl) (HRow.out _ HO8.out) HN1.out.1 HN1.out.2 ?_
                            intro gb9 cap9 w9 ho9 hl9
                            have HL9 := hid_mk hl9
                            have HO89 := hid_mk ho9
                            have HO9 := hid_mk (HO8.out.trans ho9)
                            have u1 := HO9.out.cell s1 (.inr (Nat.zero_le _))
                            have u2 := HO9.out.cell t0 (.inr (Nat.zero_le _))
                            have u3 := HO9.out.cell s3 (.inr (Nat.zero_le _))
                            have u1' := (HO9.out.alloc (.cells #[.slice (some ⟨ga8, 0, none⟩) n cap8, .slice (some ⟨gb9, 0, none⟩) n cap9] 37)).cell s1 (.inr (Nat.zero_le _))
                            have u2' := (HO9.out.alloc (.cells #[.slice (some ⟨ga8, 0, none⟩) n cap8, .slice (some ⟨gb9, 0, none⟩) n cap9] 37)).cell t0 (.inr (Nat.zero_le _))
                            have u3' := (HO9.out.alloc (.cells #[.slice (some ⟨ga8, 0, none⟩) n cap8, .slice (some ⟨gb9, 0, none⟩) n cap9] 37)).cell s3 (.inr (Nat.zero_le _))
                            clear hl9 ho9
                            refine hK.out _ _ ?hS168 (fun hHeld2 => ?rest168)
                            case hS168 => exact ⟨u1, u2⟩
                            clear hK K
                            (try clear hHeld)
                            have hHeld := hHeld2
                            clear hHeld2
                            (try simp only [Act.put, List.getElem_toArray, List.getElem_cons_zero, List.getElem_cons_succ, List.setIfInBounds_toArray, List.set_cons_zero, List.set_cons_succ])
                            refine wpAnyH_ready (rs := [4, 21]) (by kernel_rfl) (by simp) ?_
                            refine AllReadyH.cons rfl (fun K hK => ?_) ?_
                            · simp only [List.getElem_toArray, List.getElem_cons_zero, List.getElem_cons_succ]
                              go_simp
                              refine hK.out _ _ ?hS169 (fun hHeld2 => ?rest169)
                              case hS169 => assumption
                              clear hK K
                              (try clear hHeld)
                              have hHeld := hHeld2
                              clear hHeld2
                              (try simp only [Act.put, List.getElem_toArray, List.getElem_cons_zero, List.getElem_cons_succ, List.setIfInBounds_toArray, List.set_cons_zero, List.set_cons_succ])
                              refine wpAnyH_ready (rs := [21]) (by kernel_rfl) (by simp) ?_
                              refine AllReadyH.cons rfl (fun K hK => ?_) ?_
                              · simp only [List.getElem_toArray, List.getElem_cons_zero, List.getElem_cons_succ]
                                go_simp
                                refine hK.out _ _ ?hS170 (fun hHeld2 => ?rest170)
                                case hS170 => exact ⟨u1', u2'⟩
                                clear hK K
                                (try clear hHeld)
                                have hHeld := hHeld2
                                clear hHeld2
                                (try simp only [Act.put, List.getElem_toArray, List.getElem_cons_zero, List.getElem_cons_succ, List.setIfInBounds_toArray, List.set_cons_zero, List.set_cons_succ])
                                refine wpAnyH_ready (rs := [22]) (by kernel_rfl) (by simp) ?_
                                refine AllReadyH.cons rfl (fun K hK => ?_) ?_
                                · refine app_step (by rfl) _ _ 56 (by rfl) B 37 i1 (.slice none 0 0) 24 Tryd.underlying56 hi1 hy0 hy1 hy2 rfl (.slice aW Wr.length capW) Wr.length Wr (by rfl) (own_kept HK6.out.oW (HO9.out.alloc _) (Nat.zero_le _)) ⟨w9.heap.size, 0, none⟩ 2 2 [.slice (some ⟨ga8, 0, none⟩) n cap8, .slice (some ⟨gb9, 0, none⟩) n cap9] (by rfl) (by rfl) (two_cells _ _ _ _) (two_one rfl rfl) (by decide) (by unfold maxLen; have := HkL.out; have := Hk1.out; omega) (by have := HkL.out; have := Hk1.out; omega) (by have := HSz.out; have := HO9.out.size; simp; omega) ?_
                                  intro gX capX wX ownX grX
                                  obtain ⟨hbX, colX, fxX, kfX, lfX, cfX⟩ := were_two HK6.out ⟨(by show (if Wr.length + 0 < L.length then C (Wr.length + 0) else _) = _; rw [if_neg (by have := Hk1.out; omega)]), (by show (if Wr.length + 1 < L.length then C (Wr.length + 1) else _) = _; rw [if_neg (by have := Hk1.out; omega)])⟩ HL6.out HC6.out HO8.out HL8.out HO89.out HL9.out ((Out.refl 0 0 _).alloc _) ownX grX
                                  obtain ⟨_, y1, _, y3, _, _, yf⟩ := keep_cells hbX
                                  have yf3 := yf 3
                                  have y2 : wX.cell? ⟨d.br, 0, none⟩ = some (.slice (some ⟨d.bwr, 0, none⟩) n capq) := by
                                    rw [← World.cell?_of_block (w := wX) (a := ⟨d.br, 0, none⟩) (Below.heap_setCell wX ⟨d.b, 3, none⟩ (.slice (some ⟨gX, 0, none⟩) (Wr.length + 2) capX) d.br HNe.out)]
                                    exact fxX.cell t0 H67.out.2.2.1
                                  obtain ⟨_, z1, _, _, _, _, _⟩ := keep_cells kfX.hb
                                  have z2 := fxX.cell t0 H67.out.2.2.1
                                  have HKX := hid_mk kfX
                                  have HFX := hid_mk (HF6.out.trans fxX)
                                  have HLX := hid_mk lfX
                                  have HCX := hid_mk cfX
                                  clear hbX fxX kfX lfX cfX yf ownX grX
                                  refine hK.out _ _ ?hS171 (fun hHeld2 => ?rest171)
                                  case hS171 => exact ⟨y1, y2⟩
                                  clear hK K
                                  (try clear hHeld)
                                  have hHeld := hHeld2
                                  clear hHeld2
                                  (try simp only [Act.put, List.getElem_toArray, List.getElem_cons_zero, List.getElem_cons_succ, List.setIfInBounds_toArray, List.set_cons_zero, List.set_cons_succ])
                                  refine wpAnyH_take (i := 23) (v := ?v172) rfl (by kernel_rfl) (by kernel_rfl) (by kernel_rfl) (fun _ _ _ h => h) (Or.inl ⟨by rfl, ?hy172⟩) (by assumption) ?rest172
                                  case hy172 => (intro w hSw; (try dsimp only at hSw); simp only [List.getElem_toArray, List.getElem_cons_zero, List.getElem_cons_succ]; go_simp; (try with_reducible rfl))
                                  (try simp only [Act.put, List.getElem_toArray, List.getElem_cons_zero, List.getElem_cons_succ, List.setIfInBounds_toArray, List.set_cons_zero, List.set_cons_succ])
                                  refine wpAnyH_take (i := 24) (v := ?v173) rfl (by kernel_rfl) (by kernel_rfl) (by kernel_rfl) (fun _ _ _ h => h) (Or.inl ⟨by rfl, ?hy173⟩) (by assumption) ?rest173
                                  case hy173 => (intro w hSw; (try dsimp only at hSw); simp only [List.getElem_toArray, List.getElem_cons_zero, List.getElem_cons_succ]; go_simp; (try with_reducible rfl))
                                  (try simp only [Act.put, List.getElem_toArray, List.getElem_cons_zero, List.getElem_cons_succ, List.setIfInBounds_toArray, List.set_cons_zero, List.set_cons_succ])
                                  refine wpAnyH_ready (rs := [25]) (by kernel_rfl) (by simp) ?_
                                  refine AllReadyH.cons rfl (fun K hK => ?_) ?_
                                  · simp only [List.getElem_toArray, List.getElem_cons_zero, List.getElem_cons_succ]
                                    go_simp
                                    refine hK.out _ _ ?hS174 (fun hHeld2 => ?rest174)
                                    case hS174 => exact ⟨z1, z2⟩
                                    clear hK K
                                    (try clear hHeld)
                                    have hHeld := hHeld2
                                    clear hHeld2
                                    (try simp only [Act.put, List.getElem_toArray, List.getElem_cons_zero, List.getElem_cons_succ, List.setIfInBounds_toArray, List.set_cons_zero, List.set_cons_succ])
                                    refine wpAnyH_done (by kernel_rfl) ?_ _
                                    obtain ⟨W10, hW10⟩ : ∃ W10, wX.setCell ⟨d.b, 3, none⟩ (.slice (some ⟨gX, 0, none⟩) (Wr.length + 2) capX) = W10 := ⟨_, rfl⟩
                                    rw [hW10] at HKX HFX HLX ⊢
                                    have HMk := hid_mk (mark_any HKX.out HLX.out HCX.out Hk3.out (by have := Hk3.out; have := HnS.out; omega) (by rw [pgl_len]; omega))
                                    clear hW10 y1 y2 y3 yf3 z1 z2 hHeld m1 m2 m3 u1 u2 u3 u1' u2' u3' s1 s3 t0
                                    go_wp2_with (go_at_call 29; refine HMk.out.mono ?_; rintro e w11 ⟨rfl, hme⟩)
                                    go_ret
                                    obtain ⟨xS, xM, xLs, xMk, xcol, k1, k2, k3, k4⟩ := hme
                                    exact ⟨rfl, _, (Act.quiet HP.out HO1.out).trans (HP1.out.fixed (HFX.out.trans k4) k1 (fun _ => by rw [List.length_append, List.length_append, Hk1.out]; rfl) rfl k2 k3 (look_nums HN.out HU.out Hk2.out Hk3.out Hk4.out HnS.out (by omega))), rfl⟩
                                  · exact AllReadyH.nil
                                · exact AllReadyH.nil
                              · exact AllReadyH.nil
                            · refine AllReadyH.cons rfl (fun K hK => ?_) ?_
                              · simp only [List.getElem_toArray, List.getElem_cons_zero, List.getElem_cons_succ]
                                go_simp
                                refine hK.out _ _ ?hS175 (fun hHeld2 => ?rest175)
                                case hS175 => exact ⟨u1', u2'⟩
                                clear hK K
                                (try clear hHeld)
                                have hHeld := hHeld2
                                clear hHeld2
                                (try simp only [Act.put, List.getElem_toArray, List.getElem_cons_zero, List.getElem_cons_succ, List.setIfInBounds_toArray, List.set_cons_zero, List.set_cons_succ])
                                refine wpAnyH_ready (rs := [4]) (by kernel_rfl) (by simp) ?_
                                refine AllReadyH.cons rfl (fun K hK => ?_) ?_
                                · simp only [List.getElem_toArray, List.getElem_cons_zero, List.getElem_cons_succ]
                                  go_simp
                                  refine hK.out _ _ ?hS176 (fun hHeld2 => ?rest176)
                                  case hS176 => assumption
                                  clear hK K
                                  (try clear hHeld)
                                  have hHeld := hHeld2
                                  clear hHeld2
                                  (try simp only [Act.put, List.getElem_toArray, List.getElem_cons_zero, List.getElem_cons_succ, List.setIfInBounds_toArray, List.set_cons_zero, List.set_cons_succ])
                                  refine wpAnyH_ready (rs := [22]) (by kernel_rfl) (by simp) ?_
                                  refine AllReadyH.cons rfl (fun K hK => ?_) ?_
                                  · refine app_step (by rfl) _ _ 56 (by rfl) B 37 i1 (.slice none 0 0) 24 Tryd.underlying56 hi1 hy0 hy1 hy2 rfl (.slice aW Wr.length capW) Wr.length Wr (by rfl) (own_kept HK6.out.oW (HO9.out.alloc _) (Nat.zero_le _)) ⟨w9.heap.size, 0, none⟩ 2 2 [.slice (some ⟨ga8, 0, none⟩) n cap8, .slice (some ⟨gb9, 0, none⟩) n cap9] (by rfl) (by rfl) (two_cells _ _ _ _) (two_one rfl rfl) (by decide) (by unfold maxLen; have := HkL.out; have := Hk1.out; omega) (by have := HkL.out; have := Hk1.out; omega) (by have := HSz.out; have := HO9.out.size; simp; omega) ?_
                                    intro gX capX wX ownX grX
                                    obtain ⟨hbX, colX, fxX, kfX, lfX, cfX⟩ := were_two HK6.out ⟨(by show (if Wr.length + 0 < L.length then C (Wr.length + 0) else _) = _; rw [if_neg (by have := Hk1.out; omega)]), (by show (if Wr.length + 1 < L.length then C (Wr.length + 1) else _) = _; rw [if_neg (by have := Hk1.out; omega)])⟩ HL6.out HC6.out HO8.out HL8.out HO89.out HL9.out ((Out.refl 0 0 _).alloc _) ownX grX
                                    obtain ⟨_, y1, _, y3, _, _, yf⟩ := keep_cells hbX
                                    have yf3 := yf 3
                                    have y2 : wX.cell? ⟨d.br, 0, none⟩ = some (.slice (some ⟨d.bwr, 0, none⟩) n capq) := by
                                      rw [← World.cell?_of_block (w := wX) (a := ⟨d.br, 0, none⟩) (Below.heap_setCell wX ⟨d.b, 3, none⟩ (.slice (some ⟨gX, 0, none⟩) (Wr.length + 2) capX) d.br HNe.out)]
                                      exact fxX.cell t0 H67.out.2.2.1
                                    obtain ⟨_, z1, _, _, _, _, _⟩ := keep_cells kfX.hb
                                    have z2 := fxX.cell t0 H67.out.2.2.1
                                    have HKX := hid_mk kfX
                                    have HFX := hid_mk (HF6.out.trans fxX)
                                    have HLX := hid_mk lfX
                                    have HCX := hid_mk cfX
                                    clear hbX fxX kfX lfX cfX yf ownX grX
                                    refine hK.out _ _ ?hS177 (fun hHeld2 => ?rest177)
                                    case hS177 => exact ⟨y1, y2⟩
                                    clear hK K
                                    (try clear hHeld)
                                    have hHeld := hHeld2
                                    clear hHeld2
                                    (try simp only [Act.put, List.getElem_toArray, List.getElem_cons_zero, List.getElem_cons_succ, List.setIfInBounds_toArray, List.set_cons_zero, List.set_cons_succ])
                                    refine wpAnyH_take (i := 23) (v := ?v178) rfl (by kernel_rfl) (by kernel_rfl) (by kernel_rfl) (fun _ _ _ h => h) (Or.inl ⟨by rfl, ?hy178⟩) (by assumption) ?rest178
                                    case hy178 => (intro w hSw; (try dsimp only at hSw); simp only [List.getElem_toArray, List.getElem_cons_zero, List.getElem_cons_succ]; go_simp; (try with_reducible rfl))
                                    (try simp only [Act.put, List.getElem_toArray, List.getElem_cons_zero, List.getElem_cons_succ, List.setIfInBounds_toArray, List.set_cons_zero, List.set_cons_succ])
                                    refine wpAnyH_take (i := 24) (v := ?v179) rfl (by kernel_rfl) (by kernel_rfl) (by kernel_rfl) (fun _ _ _ h => h) (Or.inl ⟨by rfl, ?hy179⟩) (by assumption) ?rest179
                                    case hy179 => (intro w hSw; (try dsimp only at hSw); simp only [List.getElem_toArray, List.getElem_cons_zero, List.getElem_cons_succ]; go_simp; (try with_reducible rfl))
                                    (try simp only [Act.put, List.getElem_toArray, List.getElem_cons_zero, List.getElem_cons_succ, List.setIfInBounds_toArray, List.set_cons_zero, List.set_cons_succ])
                                    refine wpAnyH_ready (rs := [25]) (by kernel_rfl) (by simp) ?_
                                    refine AllReadyH.cons rfl (fun K hK => ?_) ?_
                                    · simp only [List.getElem_toArray, List.getElem_cons_zero, List.getElem_cons_succ]
                                      go_simp
                                      refine hK.out _ _ ?hS180 (fun hHeld2 => ?rest180)
                                      case hS180 => exact ⟨z1, z2⟩
                                      clear hK K
                                      (try clear hHeld)
                                      have hHeld := hHeld2
                                      clear hHeld2
                                      (try simp only [Act.put, List.getElem_toArray, List.getElem_cons_zero, List.getElem_cons_succ, List.setIfInBounds_toArray, List.set_cons_zero, List.set_cons_succ])
                                      refine wpAnyH_done (by kernel_rfl) ?_ _
                                      obtain ⟨W10, hW10⟩ : ∃ W10, wX.setCell ⟨d.b, 3, none⟩ (.slice (some ⟨gX, 0, none⟩) (Wr.length + 2) capX) = W10 := ⟨_, rfl⟩
                                      rw [hW10] at HKX HFX HLX ⊢
                                      have HMk := hid_mk (mark_any HKX.out HLX.out HCX.out Hk3.out (by have := Hk3.out; have := HnS.out; omega) (by rw [pgl_len]; omega))
                                      clear hW10 y1 y2 y3 yf3 z1 z2 hHeld m1 m2 m3 u1 u2 u3 u1' u2' u3' s1 s3 t0
                                      go_wp2_with (go_at_call 29; refine HMk.out.mono ?_; rintro e w11 ⟨rfl, hme⟩)
                                      go_ret
                                      obtain ⟨xS, xM, xLs, xMk, xcol, k1, k2, k3, k4⟩ := hme
                                      exact ⟨rfl, _, (Act.quiet HP.out HO1.out).trans (HP1.out.fixed (HFX.out.trans k4) k1 (fun _ => by rw [List.length_append, List.length_append, Hk1.out]; rfl) rfl k2 k3 (look_nums HN.out HU.out Hk2.out Hk3.out Hk4.out HnS.out (by omega))), rfl⟩
                                    · exact AllReadyH.nil
                                  · exact AllReadyH.nil
                                · exact AllReadyH.nil
                              · exact AllReadyH.nil
                          · exact AllReadyH.nil
                      · exact AllReadyH.nil
                  · exact AllReadyH.nil
                · exact AllReadyH.nil
              · exact AllReadyH.nil
            · refine AllReadyH.cons rfl (fun K hK => ?_) ?_
              · simp only [List.getElem_toArray, List.getElem_cons_zero, List.getElem_cons_succ]
                go_simp
                refine hK.out _ _ ?hS181 (fun hHeld2 => ?rest181)
                case hS181 => exact k0'
                clear hK K
                (try clear hHeld)
                have hHeld := hHeld2
                clear hHeld2
                (try simp only [Act.put, List.getElem_toArray, List.getElem_cons_zero, List.getElem_cons_succ, List.setIfInBounds_toArray, List.set_cons_zero, List.set_cons_succ])
                refine wpAnyH_ready (rs := [4]) (by kernel_rfl) (by simp) ?_
                refine AllReadyH.cons rfl (fun K hK => ?_) ?_
                · simp only [List.getElem_toArray, List.getElem_cons_zero, List.getElem_cons_succ]
                  go_simp
                  refine hK.out _ _ ?hS182 (fun hHeld2 => ?rest182)
                  case hS182 => assumption
                  clear hK K
                  (try clear hHeld)
                  have hHeld := hHeld2
                  clear hHeld2
                  (try simp only [Act.put, List.getElem_toArray, List.getElem_cons_zero, List.getElem_cons_succ, List.setIfInBounds_toArray, List.set_cons_zero, List.set_cons_succ])
                  refine wpAnyH_ready (rs := [16]) (by kernel_rfl) (by simp) ?_
                  refine AllReadyH.cons rfl (fun K hK => ?_) ?_
                  · refine app_step (by rfl) _ _ 56 (by rfl) B 37 i1 (.slice none 0 0) 24 Tryd.underlying56 hi1 hy0 hy1 hy2 rfl (.slice aL L.length capL) L.length L (by rfl) (own_kept HK.out.oL ((HOa.out.trans HO5.out).alloc _) (Nat.zero_le _)) ⟨w5.heap.size, 0, none⟩ 2 2 [.slice (some ⟨ga, 0, none⟩) n capa, .slice (some ⟨gb, 0, none⟩) n capb] (by rfl) (by rfl) (two_cells _ _ _ _) (two_one rfl rfl) (by decide) (by unfold maxLen; have := HkL.out; omega) (by have := HkL.out; omega) (by have := HB.out; have := HOa.out.size; have := HO5.out.size; simp; omega) ?_
                    intro g6 cap6 w6 own6 gr6
                    obtain ⟨hb6, col6, fx6, kf6, lf6, cf6⟩ := left_two HK.out Hk1.out (by rw [pgl_len]; omega) HO2.out HL2.out (HO3.out.trans HO4.out) (own_mono HL4.out HO3.out.size) HO45.out HL5.out ((Out.refl 0 0 _).alloc _) own6 gr6
                    obtain ⟨q0, _, q2, _, _, _, qf⟩ := keep_cells hb6
                    have qf2 := qf 2
                    obtain ⟨s0, s1, _, s3, _, _, _⟩ := keep_cells kf6.hb
                    have HK6 := hid_mk kf6
                    have HF6 := hid_mk fx6
                    have HL6 := hid_mk lf6
                    have HC6 := hid_mk cf6
                    clear hb6 fx6 kf6 lf6 cf6 qf own6 gr6
                    refine hK.out _ _ ?hS183 (fun hHeld2 => ?rest183)
                    case hS183 => exact q0
                    clear hK K
                    (try clear hHeld)
                    have hHeld := hHeld2
                    clear hHeld2
                    (try simp only [Act.put, List.getElem_toArray, List.getElem_cons_zero, List.getElem_cons_succ, List.setIfInBounds_toArray, List.set_cons_zero, List.set_cons_succ])
                    refine wpAnyH_take (i := 17) (v := ?v184) rfl (by kernel_rfl) (by kernel_rfl) (by kernel_rfl) (fun _ _ _ h => h) (Or.inl ⟨by rfl, ?hy184⟩) (by assumption) ?rest184
                    case hy184 => (intro w hSw; (try dsimp only at hSw); simp only [List.getElem_toArray, List.getElem_cons_zero, List.getElem_cons_succ]; go_simp; (try with_reducible rfl))
                    (try simp only [Act.put, List.getElem_toArray, List.getElem_cons_zero, List.getElem_cons_succ, List.setIfInBounds_toArray, List.set_cons_zero, List.set_cons_succ])
                    refine wpAnyH_take (i := 18) (v := ?v185) rfl (by kernel_rfl) (by kernel_rfl) (by kernel_rfl) (fun _ _ _ h => h) (Or.inl ⟨by rfl, ?hy185⟩) (by assumption) ?rest185
                    case hy185 => (intro w hSw; (try dsimp only at hSw); simp only [List.getElem_toArray, List.getElem_cons_zero, List.getElem_cons_succ]; go_simp; (try with_reducible rfl))
                    (try simp only [Act.put, List.getElem_toArray, List.getElem_cons_zero, List.getElem_cons_succ, List.setIfInBounds_toArray, List.set_cons_zero, List.set_cons_succ])
                    refine wpAnyH_ready (rs := [19]) (by kernel_rfl) (by simp) ?_
                    refine AllReadyH.cons rfl (fun K hK => ?_) ?_
                    · simp only [List.getElem_toArray, List.getElem_cons_zero, List.getElem_cons_succ]
                      go_simp
                      refine hK.out _ _ ?hS186 (fun hHeld2 => ?rest186)
                      case hS186 => exact s0
                      clear hK K
                      (try clear hHeld)
                      have hHeld := hHeld2
                      clear hHeld2
                      (try simp only [Act.put, List.getElem_toArray, List.getElem_cons_zero, List.getElem_cons_succ, List.setIfInBounds_toArray, List.set_cons_zero, List.set_cons_succ])
                      refine wpAnyH_done (by kernel_rfl) ?_ _
                      obtain ⟨W7, hW7⟩ : ∃ W7, w6.setCell ⟨d.b, 2, none⟩ (.slice (some ⟨g6, 0, none⟩) (L.length + 2) cap6) = W7 := ⟨_, rfl⟩
                      rw [hW7] at HK6 HF6 HL6 s0 s1 s3 ⊢
                      have HTr := hid_mk (HF6.out.table HP1.out.2.2.2.1 HP1.out.2.2.2.2.1.2.2.1 HP1.out.2.2.2.2.1.2.2.2)
                      obtain ⟨capq, t0, _⟩ := HTr.out.cell
                      rw [Hn.out] at t0 HTr
                      have HSz : Hid (B ≤ W7.heap.size) := HK6.out.hB
                      clear hW7 q0 q2 qf2 s0 hHeld e0 e2 f0 f2 k0 k2 k0' k2'
                      go_wp2_with fail
                      have HRow : Hid (∀ w', Out 0 0 W7 w' → PRow w' d.bwr n d.S) := fun w' o => (HTr.out.quiet o).row
                      have HN1 : Hid (1 ≤ n ∧ n ≤ 4096) := ⟨HTr.out.nums.1, HTr.out.nums.2.1⟩
                      have HNe : Hid (d.br ≠ d.b) := fun e => by have h0 := HP1.out.col0.1; rw [← e, HP1.out.2.2.2.2.1.2.2.1] at h0; cases h0
                      have H67 : Hid (col6 d.bt = 7 ∧ col6 d.bwt = 7 ∧ col6 d.br = 7 ∧ col6 d.bwr = 7) := by
                        have l := HP1.out.lt
                        have c := HP1.out.2.2.2.2.1
                        exact ⟨HF6.out.2 _ l.1 c.1, HF6.out.2 _ l.2.1 c.2.1, HF6.out.2 _ l.2.2.1 c.2.2.1, HF6.out.2 _ l.2.2.2 c.2.2.2⟩
                      refine wp_region_held_drew (S := fun w' => w'.cell? ⟨d.b, 1, none⟩ = some (.pointer (some ⟨d.br, 0, none⟩)) ∧ w'.cell? ⟨d.br, 0, none⟩ = some (.slice (some ⟨d.bwr, 0, none⟩) n capq)) (by kernel_rfl) ?hS187 (fun hHeld => ?rest187)
                      case hS187 => exact ⟨s1, t0⟩
                      refine wpAnyH_take (i := 0) (v := ?v188) rfl (by kernel_rfl) (by kernel_rfl) (by kernel_rfl) (fun _ _ _ h => h) (Or.inl ⟨by rfl, ?hy188⟩) (by assumption) ?rest188
                      case hy188 => (intro w hSw; (try dsimp only at hSw); simp only [List.getElem_toArray, List.getElem_cons_zero, List.getElem_cons_succ]; go_simp; (try with_reducible rfl))
                      (try simp only [Act.put, List.getElem_toArray, List.getElem_cons_zero, List.getElem_cons_succ, List.setIfInBounds_toArray, List.set_cons_zero, List.set_cons_succ])
                      refine wpAnyH_take (i := 1) (v := ?v189) rfl (by kernel_rfl) (by kernel_rfl) (by kernel_rfl) (fun _ _ _ h => h) (Or.inl ⟨by rfl, ?hy189⟩) (by assumption) ?rest189
                      case hy189 => (intro w hSw; (try dsimp only at hSw); simp only [List.getElem_toArray, List.getElem_cons_zero, List.getElem_cons_succ]; go_simp; (try with_reducible rfl))
                      (try simp only [Act.put, List.getElem_toArray, List.getElem_cons_zero, List.getElem_cons_succ, List.setIfInBounds_toArray, List.set_cons_zero, List.set_cons_succ])
                      refine wpAnyH_take (i := 2) (v := ?v190) rfl (by kernel_rfl) (by kernel_rfl) (by kernel_rfl) (fun _ _ _ h => h) (Or.inl ⟨by rfl, ?hy190⟩) (by assumption) ?rest190
                      case hy190 => (intro w hSw; (try dsimp only at hSw); simp only [List.getElem_toArray, List.getElem_cons_zero, List.getElem_cons_succ]; go_simp; (try with_reducible rfl))
                      (try simp only [Act.put, List.getElem_toArray, List.getElem_cons_zero, List.getElem_cons_succ, List.setIfInBounds_toArray, List.set_cons_zero, List.set_cons_succ])
                      refine wpAnyH_take (i := 3) (v := ?v191) rfl (by kernel_rfl) (by kernel_rfl) (by kernel_rfl) (fun _ _ _ h => h) (Or.inl ⟨by rfl, ?hy191⟩) (by assumption) ?rest191
                      case hy191 => (intro w hSw; (try dsimp only at hSw); simp only [List.getElem_toArray, List.getElem_cons_zero, List.getElem_cons_succ]; go_simp; (try with_reducible rfl))
                      (try simp only [Act.put, List.getElem_toArray, List.getElem_cons_zero, List.getElem_cons_succ, List.setIfInBounds_toArray, List.set_cons_zero, List.set_cons_succ])
                      refine wpAnyH_take (i := 5) (v := ?v192) rfl (by kernel_rfl) (by kernel_rfl) (by kernel_rfl) (fun _ _ _ h => h) (Or.inl ⟨by rfl, ?hy192⟩) (by assumption) ?rest192
                      case hy192 => (intro w hSw; (try dsimp only at hSw); simp only [List.getElem_toArray, List.getElem_cons_zero, List.getElem_cons_succ]; go_simp; (try with_reducible rfl))
                      (try simp only [Act.put, List.getElem_toArray, List.getElem_cons_zero, List.getElem_cons_succ, List.setIfInBounds_toArray, List.set_cons_zero, List.set_cons_succ])
                      refine wpAnyH_take (i := 6) (v := ?v193) rfl (by kernel_rfl) (by kernel_rfl) (by kernel_rfl) (fun _ _ _ h => h) (Or.inl ⟨by rfl, ?hy193⟩) (by assumption) ?rest193
                      case hy193 => (intro w hSw; (try dsimp only at hSw); simp only [List.getElem_toArray, List.getElem_cons_zero, List.getElem_cons_succ]; go_simp; (try with_reducible rfl))
                      (try simp only [Act.put, List.getElem_toArray, List.getElem_cons_zero, List.getElem_cons_succ, List.setIfInBounds_toArray, List.set_cons_zero, List.set_cons_succ])
                      refine wpAnyH_take (i := 7) (v := ?v194) rfl (by kernel_rfl) (by kernel_rfl) (by kernel_rfl) (fun _ _ _ h => h) (Or.inl ⟨by rfl, ?hy194⟩) (by assumption) ?rest194
                      case hy194 => (intro w hSw; (try dsimp only at hSw); simp only [List.getElem_toArray, List.getElem_cons_zero, List.getElem_cons_succ]; go_simp; (try with_reducible rfl))
                      (try simp only [Act.put, List.getElem_toArray, List.getElem_cons_zero, List.getElem_cons_succ, List.setIfInBounds_toArray, List.set_cons_zero, List.set_cons_succ])
                      refine wpAnyH_take (i := 8) (v := ?v195) rfl (by kernel_rfl) (by kernel_rfl) (by kernel_rfl) (fun _ _ _ h => h) (Or.inl ⟨by rfl, ?hy195⟩) (by assumption) ?rest195
                      case hy195 => (intro w hSw; (try dsimp only at hSw); simp only [List.getElem_toArray, List.getElem_cons_zero, List.getElem_cons_succ]; go_simp; (try with_reducible rfl))
                      (try simp only [Act.put, List.getElem_toArray, List.getElem_cons_zero, List.getElem_cons_succ, List.setIfInBounds_toArray, List.set_cons_zero, List.set_cons_succ])
                      refine wpAnyH_take (i := 9) (v := ?v196) rfl (by kernel_rfl) (by kernel_rfl) (by kernel_rfl) (fun _ _ _ h => h) (Or.inl ⟨by rfl, ?hy196⟩) (by assumption) ?rest196
                      case hy196 => (intro w hSw; (try dsimp only at hSw); simp only [List.getElem_toArray, List.getElem_cons_zero, List.getElem_cons_succ]; go_simp; (try with_reducible rfl))
                      (try simp only [Act.put, List.getElem_toArray, List.getElem_cons_zero, List.getElem_cons_succ, List.setIfInBounds_toArray, List.set_cons_zero, List.set_cons_succ])
                      refine wpAnyH_take (i := 10) (v := ?v197) rfl (by kernel_rfl) (by kernel_rfl) (by kernel_rfl) (fun _ _ _ h => h) (Or.inl ⟨by rfl, ?hy197⟩) (by assumption) ?rest197
                      case hy197 => (intro w hSw; (try dsimp only at hSw); simp only [List.getElem_toArray, List.getElem_cons_zero, List.getElem_cons_succ]; go_simp; (try with_reducible rfl))
                      (try simp only [Act.put, List.getElem_toArray, List.getElem_cons_zero, List.getElem_cons_succ, List.setIfInBounds_toArray, List.set_cons_zero, List.set_cons_succ])
                      refine wpAnyH_take (i := 11) (v := ?v198) rfl (by kernel_rfl) (by kernel_rfl) (by kernel_rfl) (fun _ _ _ h => h) (Or.inl ⟨by rfl, ?hy198⟩) (by assumption) ?rest198
                      case hy198 => (intro w hSw; (try dsimp only at hSw); simp only [List.getElem_toArray, List.getElem_cons_zero, List.getElem_cons_succ]; go_simp; (try with_reducible rfl))
                      (try simp only [Act.put, List.getElem_toArray, List.getElem_cons_zero, List.getElem_cons_succ, List.setIfInBounds_toArray, List.set_cons_zero, List.set_cons_succ])
                      refine wpAnyH_take (i := 13) (v := ?v199) rfl (by kernel_rfl) (by kernel_rfl) (by kernel_rfl) (fun _ _ _ h => h) (Or.inl ⟨by rfl, ?hy199⟩) (by assumption) ?rest199
                      case hy199 => (intro w hSw; (try dsimp only at hSw); simp only [List.getElem_toArray, List.getElem_cons_zero, List.getElem_cons_succ]; go_simp; (try with_reducible rfl))
                      (try simp only [Act.put, List.getElem_toArray, List.getElem_cons_zero, List.getElem_cons_succ, List.setIfInBounds_toArray, List.set_cons_zero, List.set_cons_succ])
                      refine wpAnyH_take (i := 14) (v := ?v200) rfl (by kernel_rfl) (by kernel_rfl) (by kernel_rfl) (fun _ _ _ h => h) (Or.inl ⟨by rfl, ?hy200⟩) (by assumption) ?rest200
                      case hy200 => (intro w hSw; (try dsimp only at hSw); simp only [List.getElem_toArray, List.getElem_cons_zero, List.getElem_cons_succ]; go_simp; (try with_reducible rfl))
                      (try simp only [Act.put, List.getElem_toArray, List.getElem_cons_zero, List.getElem_cons_succ, List.setIfInBounds_toArray, List.set_cons_zero, List.set_cons_succ])
                      refine wpAnyH_take (i := 15) (v := ?v201) rfl (by kernel_rfl) (by kernel_rfl) (by kernel_rfl) (fun _ _ _ h => h) (Or.inl ⟨by rfl, ?hy201⟩) (by assumption) ?rest201
                      case hy201 => (intro w hSw; (try dsimp only at hSw); simp only [List.getElem_toArray, List.getElem_cons_zero, List.getElem_cons_succ]; go_simp; (try with_reducible rfl))
                      (try simp only [Act.put, List.getElem_toArray, List.getElem_cons_zero, List.getElem_cons_succ, List.setIfInBounds_toArray, List.set_cons_zero, List.set_cons_succ])
                      refine wpAnyH_take (i := 16) (v := ?v202) rfl (by kernel_rfl) (by kernel_rfl) (by kernel_rfl) (fun _ _ _ h => h) (Or.inl ⟨by rfl, ?hy202⟩) (by assumption) ?rest202
                      case hy202 => (intro w hSw; (try dsimp only at hSw); simp only [List.getElem_toArray, List.getElem_cons_zero, List.getElem_cons_succ]; go_simp; (try with_reducible rfl))
                      (try simp only [Act.put, List.getElem_toArray, List.getElem_cons_zero, List.getElem_cons_succ, List.setIfInBounds_toArray, List.set_cons_zero, List.set_cons_succ])
                      refine wpAnyH_take (i := 17) (v := ?v203) rfl (by kernel_rfl) (by kernel_rfl) (by kernel_rfl) (fun _ _ _ h => h) (Or.inl ⟨by rfl, ?hy203⟩) (by assumption) ?rest203
                      case hy203 => (intro w hSw; (try dsimp only at hSw); simp only [List.getElem_toArray, List.getElem_cons_zero, List.getElem_cons_succ]; go_simp; (try with_reducible rfl))
                      (try simp only [Act.put, List.getElem_toArray, List.getElem_cons_zero, List.getElem_cons_succ, List.setIfInBounds_toArray, List.set_cons_zero, List.set_cons_succ])
                      refine wpAnyH_take (i := 18) (v := ?v204) rfl (by kernel_rfl) (by kernel_rfl) (by kernel_rfl) (fun _ _ _ h => h) (Or.inl ⟨by rfl, ?hy204⟩) (by assumption) ?rest204
                      case hy204 => (intro w hSw; (try dsimp only at hSw); simp only [List.getElem_toArray, List.getElem_cons_zero, List.getElem_cons_succ]; go_simp; (try with_reducible rfl))
                      (try simp only [Act.put, List.getElem_toArray, List.getElem_cons_zero, List.getElem_cons_succ, List.setIfInBounds_toArray, List.set_cons_zero, List.set_cons_succ])
                      refine wpAnyH_take (i := 19) (v := ?v205) rfl (by kernel_rfl) (by kernel_rfl) (by kernel_rfl) (fun _ _ _ h => h) (Or.inl ⟨by rfl, ?hy205⟩) (by assumption) ?rest205
                      case hy205 => (intro w hSw; (try dsimp only at hSw); simp only [List.getElem_toArray, List.getElem_cons_zero, List.getElem_cons_succ]; go_simp; (try with_reducible rfl))
                      (try simp only [Act.put, List.getElem_toArray, List.getElem_cons_zero, List.getElem_cons_succ, List.setIfInBounds_toArray, List.set_cons_zero, List.set_cons_succ])
                      refine wpAnyH_ready (rs := [4, 12]) (by kernel_rfl) (by simp) ?_
                      refine AllReadyH.cons rfl (fun K hK => ?_) ?_
                      · simp only [List.getElem_toArray, List.getElem_cons_zero, List.getElem_cons_succ]
                        go_simp
                        refine hK.out _ _ ?hS206 (fun hHeld2 => ?rest206)
                        case hS206 => assumption
                        clear hK K
                        (try clear hHeld)
                        have hHeld := hHeld2
                        clear hHeld2
                        (try simp only [Act.put, List.getElem_toArray, List.getElem_cons_zero, List.getElem_cons_succ, List.setIfInBounds_toArray, List.set_cons_zero, List.set_cons_succ])
                        refine wpAnyH_ready (rs := [12]) (by kernel_rfl) (by simp) ?_
                        refine AllReadyH.cons rfl (fun K hK => ?_) ?_
                        · refine pcopy_step (cap := capq) (S := d.S) (by rfl) _ (by rfl) (by rfl) (HRow.out _ (Out.refl 0 0 _).drew) HN1.out.1 HN1.out.2 ?_
                          intro ga8 cap8 w8 ho8 hl8
                          have HL8 : Hid (ListIs w8 W7.heap.size (.slice (some ⟨ga8, 0, none⟩) n cap8) (pgl d.S n)) := hl8
                          have HO8 : Hid (Out 0 0 W7 w8) := (Out.refl 0 0 W7).drew.trans ho8
                          have m1 := HO8.out.cell s1 (.inr (Nat.zero_le _))
                          have m2 := HO8.out.cell t0 (.inr (Nat.zero_le _))
                          have m3 := HO8.out.cell s3 (.inr (Nat.zero_le _))
                          clear hl8 ho8
                          refine hK.out _ _ ?hS207 (fun hHeld2 => ?rest207)
                          case hS207 => exact ⟨m1, m2⟩
                          clear hK K
                          (try clear hHeld)
                          have hHeld := hHeld2
                          clear hHeld2
                          (try simp only [Act.put, List.getElem_toArray, List.getElem_cons_zero, List.getElem_cons_succ, List.setIfInBounds_toArray, List.set_cons_zero, List.set_cons_succ])
                          refine wpAnyH_ready (rs := [20]) (by kernel_rfl) (by simp) ?_
                          refine AllReadyH.cons rfl (fun K hK => ?_) ?_
                          · refine pcopy_step (cap := capq) (S := d.S) (by rfl) _ (by rfl) (by rfl) (HRow.out _ HO8.out) HN1.out.1 HN1.out.2 ?_
                            intro gb9 cap9 w9 ho9 hl9
                            have HL9 := hid_mk hl9
                            have HO89 := hid_mk ho9
                            have HO9 := hid_mk (HO8.out.trans ho9)
                            have u1 := HO9.out.cell s1 (.inr (Nat.zero_le _))
                            have u2 := HO9.out.cell t0 (.inr (Nat.zero_le _))
                            have u3 := HO9.out.cell s3 (.inr (Nat.zero_le _))
                            have u1' := (HO9.out.alloc (.cells #[.slice (some ⟨ga8, 0, none⟩) n cap8, .slice (some ⟨gb9, 0, none⟩) n cap9] 37)).cell s1 (.inr (Nat.zero_le _))
                            have u2' := (HO9.out.alloc (.cells #[.slice (some ⟨ga8, 0, none⟩) n cap8, .slice (some ⟨gb9, 0, none⟩) n cap9] 37)).cell t0 (.inr (Nat.zero_le _))
                            have u3' := (HO9.out.alloc (.cells #[.slice (some ⟨ga8, 0, none⟩) n cap8, .slice (some ⟨gb9, 0, none⟩) n cap9] 37)).cell s3 (.inr (Nat.zero_le _))
                            clear hl9 ho9
                            refine hK.out _ _ ?hS208 (fun hHeld2 => ?rest208)
                            case hS208 => exact ⟨u1, u2⟩
                            clear hK K
                            (try clear hHeld)
                            have hHeld := hHeld2
                            clear hHeld2
                            (try simp only [Act.put, List.getElem_toArray, List.getElem_cons_zero, List.getElem_cons_succ, List.setIfInBounds_toArray, List.set_cons_zero, List.set_cons_succ])
                            refine wpAnyH_ready (rs := [21]) (by kernel_rfl) (by simp) ?_
                            refine AllReadyH.cons rfl (fun K hK => ?_) ?_
                            · simp only [List.getElem_toArray, List.getElem_cons_zero, List.getElem_cons_succ]
                              go_simp
                              refine hK.out _ _ ?hS209 (fun hHeld2 => ?rest209)
                              case hS209 => exact ⟨u1', u2'⟩
                              clear hK K
                              (try clear hHeld)
                              have hHeld := hHeld2
                              clear hHeld2
                              (try simp only [Act.put, List.getElem_toArray, List.getElem_cons_zero, List.getElem_cons_succ, List.setIfInBounds_toArray, List.set_cons_zero, List.set_cons_succ])
                              refine wpAnyH_ready (rs := [22]) (by kernel_rfl) (by simp) ?_
                              refine AllReadyH.cons rfl (fun K hK => ?_) ?_
                              · refine app_step (by rfl) _ _ 56 (by rfl) B 37 i1 (.slice none 0 0) 24 Tryd.underlying56 hi1 hy0 hy1 hy2 rfl (.slice aW Wr.length capW) Wr.length Wr (by rfl) (own_kept HK6.out.oW (HO9.out.alloc _) (Nat.zero_le _)) ⟨w9.heap.size, 0, none⟩ 2 2 [.slice (some ⟨ga8, 0, none⟩) n cap8, .slice (some ⟨gb9, 0, none⟩) n cap9] (by rfl) (by rfl) (two_cells _ _ _ _) (two_one rfl rfl) (by decide) (by unfold maxLen; have := HkL.out; have := Hk1.out; omega) (by have := HkL.out; have := Hk1.out; omega) (by have := HSz.out; have := HO9.out.size; simp; omega) ?_
                                intro gX capX wX ownX grX
                                obtain ⟨hbX, colX, fxX, kfX, lfX, cfX⟩ := were_two HK6.out ⟨(by show (if Wr.length + 0 < L.length then C (Wr.length + 0) else _) = _; rw [if_neg (by have := Hk1.out; omega)]), (by show (if Wr.length + 1 < L.length then C (Wr.length + 1) else _) = _; rw [if_neg (by have := Hk1.out; omega)])⟩ HL6.out HC6.out HO8.out HL8.out HO89.out HL9.out ((Out.refl 0 0 _).alloc _) ownX grX
                                obtain ⟨_, y1, _, y3, _, _, yf⟩ := keep_cells hbX
                                have yf3 := yf 3
                                have y2 : wX.cell? ⟨d.br, 0, none⟩ = some (.slice (some ⟨d.bwr, 0, none⟩) n capq) := by
                                  rw [← World.cell?_of_block (w := wX) (a := ⟨d.br, 0, none⟩) (Below.heap_setCell wX ⟨d.b, 3, none⟩ (.slice (some ⟨gX, 0, none⟩) (Wr.length + 2) capX) d.br HNe.out)]
                                  exact fxX.cell t0 H67.out.2.2.1
                                obtain ⟨_, z1, _, _, _, _, _⟩ := keep_cells kfX.hb
                                have z2 := fxX.cell t0 H67.out.2.2.1
                                have HKX := hid_mk kfX
                                have HFX := hid_mk (HF6.out.trans fxX)
                                have HLX := hid_mk lfX
                                have HCX := hid_mk cfX
                                clear hbX fxX kfX lfX cfX yf ownX grX
                                refine hK.out _ _ ?hS210 (fun hHeld2 => ?rest210)
                                case hS210 => exact ⟨y1, y2⟩
                                clear hK K
                                (try clear hHeld)
                                have hHeld := hHeld2
                                clear hHeld2
                                (try simp only [Act.put, List.getElem_toArray, List.getElem_cons_zero, List.getElem_cons_succ, List.setIfInBounds_toArray, List.set_cons_zero, List.set_cons_succ])
                                refine wpAnyH_take (i := 23) (v := ?v211) rfl (by kernel_rfl) (by kernel_rfl) (by kernel_rfl) (fun _ _ _ h => h) (Or.inl ⟨by rfl, ?hy211⟩) (by assumption) ?rest211
                                case hy211 => (intro w hSw; (try dsimp only at hSw); simp only [List.getElem_toArray, List.getElem_cons_zero, List.getElem_cons_succ]; go_simp; (try with_reducible rfl))
                                (try simp only [Act.put, List.getElem_toArray, List.getElem_cons_zero, List.getElem_cons_succ, List.setIfInBounds_toArray, List.set_cons_zero, List.set_cons_succ])
                                refine wpAnyH_take (i := 24) (v := ?v212) rfl (by kernel_rfl) (by kernel_rfl) (by kernel_rfl) (fun _ _ _ h => h) (Or.inl ⟨by rfl, ?hy212⟩) (by assumption) ?rest212
                                case hy212 => (intro w hSw; (try dsimp only at hSw); simp only [List.getElem_toArray, List.getElem_cons_zero, List.getElem_cons_succ]; go_simp; (try with_reducible rfl))
                                (try simp only [Act.put, List.getElem_toArray, List.getElem_cons_zero, List.getElem_cons_succ, List.setIfInBounds_toArray, List.set_cons_zero, List.set_cons_succ])
                                refine wpAnyH_ready (rs := [25]) (by kernel_rfl) (by simp) ?_
                                refine AllReadyH.cons rfl (fun K hK => ?_) ?_
                                · simp only [List.getElem_toArray, List.getElem_cons_zero, List.getElem_cons_succ]
                                  go_simp
                                  refine hK.out _ _ ?hS213 (fun hHeld2 => ?rest213)
                                  case hS213 => exact ⟨z1, z2⟩
                                  clear hK K
                                  (try clear hHeld)
                                  have hHeld := hHeld2
                                  clear hHeld2
                                  (try simp only [Act.put, List.getElem_toArray, List.getElem_cons_zero, List.getElem_cons_succ, List.setIfInBounds_toArray, List.set_cons_zero, List.set_cons_succ])
                                  refine wpAnyH_done (by kernel_rfl) ?_ _
                                  obtain ⟨W10, hW10⟩ : ∃ W10, wX.setCell ⟨d.b, 3, none⟩ (.slice (some ⟨gX, 0, none⟩) (Wr.length + 2) capX) = W10 := ⟨_, rfl⟩
                                  rw [hW10] at HKX HFX HLX ⊢
                                  have HMk := hid_mk (mark_any HKX.out HLX.out HCX.out Hk3.out (by have := Hk3.out; have := HnS.out; omega) (by rw [pgl_len]; omega))
                                  clear hW10 y1 y2 y3 yf3 z1 z2 hHeld m1 m2 m3 u1 u2 u3 u1' u2' u3' s1 s3 t0
                                  go_wp2_with (go_at_call 29; refine HMk.out.mono ?_; rintro e w11 ⟨rfl, hme⟩)
                                  go_ret
                                  obtain ⟨xS, xM, xLs, xMk, xcol, k1, k2, k3, k4⟩ := hme
                                  exact ⟨rfl, _, (Act.quiet HP.out HO1.out).trans (HP1.out.fixed (HFX.out.trans k4) k1 (fun _ => by rw [List.length_append, List.length_append, Hk1.out]; rfl) rfl k2 k3 (look_nums HN.out HU.out Hk2.out Hk3.out Hk4.out HnS.out (by omega))), rfl⟩
                                · exact AllReadyH.nil
                              · exact AllReadyH.nil
                            · exact AllReadyH.nil
                          · exact AllReadyH.nil
                        · exact AllReadyH.nil
                      · refine AllReadyH.cons rfl (fun K hK => ?_) ?_
                        · refine pcopy_step (cap := capq) (S := d.S) (by rfl) _ (by rfl) (by rfl) (HRow.out _ (Out.refl 0 0 _).drew) HN1.out.1 HN1.out.2 ?_
                          intro ga8 cap8 w8 ho8 hl8
                          have HL8 : Hid (ListIs w8 W7.heap.size (.slice (some ⟨ga8, 0, none⟩) n cap8) (pgl d.S n)) := hl8
                          have HO8 : Hid (Out 0 0 W7 w8) := (Out.refl 0 0 W7).drew.trans ho8
                          have m1 := HO8.out.cell s1 (.inr (Nat.zero_le _))
                          have m2 := HO8.out.cell t0 (.inr (Nat.zero_le _))
                          have m3 := HO8.out.cell s3 (.inr (Nat.zero_le _))
                          clear hl8 ho8
                          refine hK.out _ _ ?hS214 (fun hHeld2 => ?rest214)
                          case hS214 => exact ⟨m1, m2⟩
                          clear hK K
                          (try clear hHeld)
                          have hHeld := hHeld2
                          clear hHeld2
                          (try simp only [Act.put, List.getElem_toArray, List.getElem_cons_zero, List.getElem_cons_succ, List.setIfInBounds_toArray, List.set_cons_zero, List.set_cons_succ])
                          refine wpAnyH_ready (rs := [4, 20]) (by kernel_rfl) (by simp) ?_
                          refine AllReadyH.cons rfl (fun K hK => ?_) ?_
                          · simp only [List.getElem_toArray, List.getElem_cons_zero, List.getElem_cons_succ]
                            go_simp
                            refine hK.out _ _ ?hS215 (fun hHeld2 => ?rest215)
                            case hS215 => assumption
                            clear hK K
                            (try clear hHeld)
                            have hHeld := hHeld2
                            clear hHeld2
                            (try simp only [Act.put, List.getElem_toArray, List.getElem_cons_zero, List.getElem_cons_succ, List.setIfInBounds_toArray, List.set_cons_zero, List.set_cons_succ])
                            refine wpAnyH_ready (rs := [20]) (by kernel_rfl) (by simp) ?_
                            refine AllReadyH.cons rfl (fun K hK => ?_) ?_
                            · refine pcopy_step (cap := capq) (S := d.S) (by rfl) _ (by rfl) (by rfl) (HRow.out _ HO8.out) HN1.out.1 HN1.out.2 ?_
                              intro gb9 cap9 w9 ho9 hl9
                              have HL9 := hid_mk hl9
                              have HO89 := hid_mk ho9
                              have HO9 := hid_mk (HO8.out.trans ho9)
                              have u1 := HO9.out.cell s1 (.inr (Nat.zero_le _))
                              have u2 := HO9.out.cell t0 (.inr (Nat.zero_le _))
                              have u3 := HO9.out.cell s3 (.inr (Nat.zero_le _))
                              have u1' := (HO9.out.alloc (.cells #[.slice (some ⟨ga8, 0, none⟩) n cap8, .slice (some ⟨gb9, 0, none⟩) n cap9] 37)).cell s1 (.inr (Nat.zero_le _))
                              have u2' := (HO9.out.alloc (.cells #[.slice (some ⟨ga8, 0, none⟩) n cap8, .slice (some ⟨gb9, 0, none⟩) n cap9] 37)).cell t0 (.inr (Nat.zero_le _))
                              have u3' := (HO9.out.alloc (.cells #[.slice (some ⟨ga8, 0, none⟩) n cap8, .slice (some ⟨gb9, 0, none⟩) n cap9] 37)).cell s3 (.inr (Nat.zero_le _))
                              clear hl9 ho9
                              refine hK.out _ _ ?hS216 (fun hHeld2 => ?rest216)
                              case hS216 => exact ⟨u1, u2⟩
                              clear hK K
                              (try clear hHeld)
                              have hHeld := hHeld2
                              clear hHeld2
                              (try simp only [Act.put, List.getElem_toArray, List.getElem_cons_zero, List.getElem_cons_succ, List.setIfInBounds_toArray, List.set_cons_zero, List.set_cons_succ])
                              refine wpAnyH_ready (rs := [21]) (by kernel_rfl) (by simp) ?_
                              refine AllReadyH.cons rfl (fun K hK => ?_) ?_
                              · simp only [List.getElem_toArray, List.getElem_cons_zero, List.getElem_cons_succ]
                                go_simp
                                refine hK.out _ _ ?hS217 (fun hHeld2 => ?rest217)
                                case hS217 => exact ⟨u1', u2'⟩
                                clear hK K
                                (try clear hHeld)
                                have hHeld := hHeld2
                                clear hHeld2
                                (try simp only [Act.put, List.getElem_toArray, List.getElem_cons_zero, List.getElem_cons_succ, List.setIfInBounds_toArray, List.set_cons_zero, List.set_cons_succ])
                                refine wpAnyH_ready (rs := [22]) (by kernel_rfl) (by simp) ?_
                                refine AllReadyH.cons rfl (fun K hK => ?_) ?_
                                · refine app_step (by rfl) _ _ 56 (by rfl) B 37 i1 (.slice none 0 0) 24 Tryd.underlying56 hi1 hy0 hy1 hy2 rfl (.slice aW Wr.length capW) Wr.length Wr (by rfl) (own_kept HK6.out.oW (HO9.out.alloc _) (Nat.zero_le _)) ⟨w9.heap.size, 0, none⟩ 2 2 [.slice (some ⟨ga8, 0, none⟩) n cap8, .slice (some ⟨gb9, 0, none⟩) n cap9] (by rfl) (by rfl) (two_cells _ _ _ _) (two_one rfl rfl) (by decide) (by unfold maxLen; have := HkL.out; have := Hk1.out; omega) (by have := HkL.out; have := Hk1.out; omega) (by have := HSz.out; have := HO9.out.size; simp; omega) ?_
                                  intro gX capX wX ownX grX
                                  obtain ⟨hbX, colX, fxX, kfX, lfX, cfX⟩ := were_two HK6.out ⟨(by show (if Wr.length + 0 < L.length then C (Wr.length + 0) else _) = _; rw [if_neg (by have := Hk1.out; omega)]), (by show (if Wr.length + 1 < L.length then C (Wr.length + 1) else _) = _; rw [if_neg (by have := Hk1.out; omega)])⟩ HL6.out HC6.out HO8.out HL8.out HO89.out HL9.out ((Out.refl 0 0 _).alloc _) ownX grX
                                  obtain ⟨_, y1, _, y3, _, _, yf⟩ := keep_cells hbX
                                  have yf3 := yf 3
                                  have y2 : wX.cell? ⟨d.br, 0, none⟩ = some (.slice (some ⟨d.bwr, 0, none⟩) n capq) := by
                                    rw [← World.cell?_of_block (w := wX) (a := ⟨d.br, 0, none⟩) (Below.heap_setCell wX ⟨d.b, 3, none⟩ (.slice (some ⟨gX, 0, none⟩) (Wr.length + 2) capX) d.br HNe.out)]
                                    exact fxX.cell t0 H67.out.2.2.1
                                  obtain ⟨_, z1, _, _, _, _, _⟩ := keep_cells kfX.hb
                                  have z2 := fxX.cell t0 H67.out.2.2.1
                                  have HKX := hid_mk kfX
                                  have HFX := hid_mk (HF6.out.trans fxX)
                                  have HLX := hid_mk lfX
                                  have HCX := hid_mk cfX
                                  clear hbX fxX kfX lfX cfX yf ownX grX
                                  refine hK.out _ _ ?hS218 (fun hHeld2 => ?rest218)
                                  case hS218 => exact ⟨y1, y2⟩
                                  clear hK K
                                  (try clear hHeld)
                                  have hHeld := hHeld2
                                  clear hHeld2
                                  (try simp only [Act.put, List.getElem_toArray, List.getElem_cons_zero, List.getElem_cons_succ, List.setIfInBounds_toArray, List.set_cons_zero, List.set_cons_succ])
                                  refine wpAnyH_take (i := 23) (v := ?v219) rfl (by kernel_rfl) (by kernel_rfl) (by kernel_rfl) (fun _ _ _ h => h) (Or.inl ⟨by rfl, ?hy219⟩) (by assumption) ?rest219
                                  case hy219 => (intro w hSw; (try dsimp only at hSw); simp only [List.getElem_toArray, List.getElem_cons_zero, List.getElem_cons_succ]; go_simp; (try with_reducible rfl))
                                  (try simp only [Act.put, List.getElem_toArray, List.getElem_cons_zero, List.getElem_cons_succ, List.setIfInBounds_toArray, List.set_cons_zero, List.set_cons_succ])
                                  refine wpAnyH_take (i := 24) (v := ?v220) rfl (by kernel_rfl) (by kernel_rfl) (by kernel_rfl) (fun _ _ _ h => h) (Or.inl ⟨by rfl, ?hy220⟩) (by assumption) ?rest220
                                  case hy220 => (intro w hSw; (try dsimp only at hSw); simp only [List.getElem_toArray, List.getElem_cons_zero, List.getElem_cons_succ]; go_simp; (try with_reducible rfl))
                                  (try simp only [Act.put, List.getElem_toArray, List.getElem_cons_zero, List.getElem_cons_succ, List.setIfInBounds_toArray, List.set_cons_zero, List.set_cons_succ])
                                  refine wpAnyH_ready (rs := [25]) (by kernel_rfl) (by simp) ?_
                                  refine AllReadyH.cons rfl (fun K hK => ?_) ?_
                                  · simp only [List.getElem_toArray, List.getElem_cons_zero, List.getElem_cons_succ]
                                    go_simp
                                    refine hK.out _ _ ?hS221 (fun hHeld2 => ?rest221)
                                    case hS221 => exact ⟨z1, z2⟩
                                    clear hK K
                                    (try clear hHeld)
                                    have hHeld := hHeld2
                                    clear hHeld2
                                    (try simp only [Act.put, List.getElem_toArray, List.getElem_cons_zero, List.getElem_cons_succ, List.setIfInBounds_toArray, List.set_cons_zero, List.set_cons_succ])
                                    refine wpAnyH_done (by kernel_rfl) ?_ _
                                    obtain ⟨W10, hW10⟩ : ∃ W10, wX.setCell ⟨d.b, 3, none⟩ (.slice (some ⟨gX, 0, none⟩) (Wr.length + 2) capX) = W10 := ⟨_, rfl⟩
                                    rw [hW10] at HKX HFX HLX ⊢
                                    have HMk := hid_mk (mark_any HKX.out HLX.out HCX.out Hk3.out (by have := Hk3.out; have := HnS.out; omega) (by rw [pgl_len]; omega))
                                    clear hW10 y1 y2 y3 yf3 z1 z2 hHeld m1 m2 m3 u1 u2 u3 u1' u2' u3' s1 s3 t0
                                    go_wp2_with (go_at_call 29; refine HMk.out.mono ?_; rintro e w11 ⟨rfl, hme⟩)
                                    go_ret
                                    obtain ⟨xS, xM, xLs, xMk, xcol, k1, k2, k3, k4⟩ := hme
                                    exact ⟨rfl, _, (Act.quiet HP.out HO1.out).trans (HP1.out.fixed (HFX.out.trans k4) k1 (fun _ => by rw [List.length_append, List.length_append, Hk1.out]; rfl) rfl k2 k3 (look_nums HN.out HU.out Hk2.out Hk3.out Hk4.out HnS.out (by omega))), rfl⟩
                                  · exact AllReadyH.nil
                                · exact AllReadyH.nil
                              · exact AllReadyH.nil
                            · exact AllReadyH.nil
                          · refine AllReadyH.cons rfl (fun K hK => ?_) ?_
                            · refine pcopy_step (cap := capq) (S := d.S) (by rfl) _ (by rfl) (by rfl) (HRow.out _ HO8.out) HN1.out.1 HN1.out.2 ?_
                              intro gb9 cap9 w9 ho9 hl9
                              have HL9 := hid_mk hl9
                              have HO89 := hid_mk ho9
                              have HO9 := hid_mk (HO8.out.trans ho9)
                              have u1 := HO9.out.cell s1 (.inr (Nat.zero_le _))
                              have u2 := HO9.out.cell t0 (.inr (Nat.zero_le _))
                              have u3 := HO9.out.cell s3 (.inr (Nat.zero_le _))
                              have u1' := (HO9.out.alloc (.cells #[.slice (some ⟨ga8, 0, none⟩) n cap8, .slice (some ⟨gb9, 0, none⟩) n cap9] 37)).cell s1 (.inr (Nat.zero_le _))
                              have u2' := (HO9.out.alloc (.cells #[.slice (some ⟨ga8, 0, none⟩) n cap8, .slice (some ⟨gb9, 0, none⟩) n cap9] 37)).cell t0 (.inr (Nat.zero_le _))
                              have u3' := (HO9.out.alloc (.cells #[.slice (some ⟨ga8, 0, none⟩) n cap8, .slice (some ⟨gb9, 0, none⟩) n cap9] 37)).cell s3 (.inr (Nat.zero_le _))
                              clear hl9 ho9
                              refine hK.out _ _ ?hS222 (fun hHeld2 => ?rest222)
                              case hS222 => exact ⟨u1, u2⟩
                              clear hK K
                              (try clear hHeld)
                              have hHeld := hHeld2
                              clear hHeld2
                              (try simp only [Act.put, List.getElem_toArray, List.getElem_cons_zero, List.getElem_cons_succ, List.setIfInBounds_toArray, List.set_cons_zero, List.set_cons_succ])
                              refine wpAnyH_ready (rs := [4, 21]) (by kernel_rfl) (by simp) ?_
                              refine AllReadyH.cons rfl (fun K hK => ?_) ?_
                              · simp only [List.getElem_toArray, List.getElem_cons_zero, List.getElem_cons_succ]
                                go_simp
                                refine hK.out _ _ ?hS223 (fun hHeld2 => ?rest223)
                                case hS223 => assumption
                                clear hK K
                                (try clear hHeld)
                                have hHeld := hHeld2
                                clear hHeld2
                                (try simp only [Act.put, List.getElem_toArray, List.getElem_cons_zero, List.getElem_cons_succ, List.setIfInBounds_toArray, List.set_cons_zero, List.set_cons_succ])
                                refine wpAnyH_ready (rs := [21]) (by kernel_rfl) (by simp) ?_
                                refine AllReadyH.cons rfl (fun K hK => ?_) ?_
                                · simp only [List.getElem_toArray, List.getElem_cons_zero, List.getElem_cons_succ]
                                  go_simp
                                  refine hK.out _ _ ?hS224 (fun hHeld2 => ?rest224)
                                  case hS224 => exact ⟨u1', u2'⟩
                                  clear hK K
                                  (try clear hHeld)
                                  have hHeld := hHeld2
                                  clear hHeld2
                                  (try simp only [Act.put, List.getElem_toArray, List.getElem_cons_zero, List.getElem_cons_succ, List.setIfInBounds_toArray, List.set_cons_zero, List.set_cons_succ])
                                  refine wpAnyH_ready (rs := [22]) (by kernel_rfl) (by simp) ?_
                                  refine AllReadyH.cons rfl (fun K hK => ?_) ?_
                                  · refine app_step (by rfl) _ _ 56 (by rfl) B 37 i1 (.slice none 0 0) 24 Tryd.underlying56 hi1 hy0 hy1 hy2 rfl (.slice aW Wr.length capW) Wr.length Wr (by rfl) (own_kept HK6.out.oW (HO9.out.alloc _) (Nat.zero_le _)) ⟨w9.heap.size, 0, none⟩ 2 2 [.slice (some ⟨ga8, 0, none⟩) n cap8, .slice (some ⟨gb9, 0, none⟩) n cap9] (by rfl) (by rfl) (two_cells _ _ _ _) (two_one rfl rfl) (by decide) (by unfold maxLen; have := HkL.out; have := Hk1.out; omega) (by have := HkL.out; have := Hk1.out; omega) (by have := HSz.out; have := HO9.out.size; simp; omega) ?_
                                    intro gX capX wX ownX grX
                                    obtain ⟨hbX, colX, fxX, kfX, lfX, cfX⟩ := were_two HK6.out ⟨(by show (if Wr.length + 0 < L.length then C (Wr.length + 0) else _) = _; rw [if_neg (by have := Hk1.out; omega)]), (by show (if Wr.length + 1 < L.length then C (Wr.length + 1) else _) = _; rw [if_neg (by have := Hk1.out; omega)])⟩ HL6.out HC6.out HO8.out HL8.out HO89.out HL9.out ((Out.refl 0 0 _).alloc _) ownX grX
                                    obtain ⟨_, y1, _, y3, _, _, yf⟩ := keep_cells hbX
                                    have yf3 := yf 3
                                    have y2 : wX.cell? ⟨d.br, 0, none⟩ = some (.slice (some ⟨d.bwr, 0, none⟩) n capq) := by
                                      rw [← World.cell?_of_block (w := wX) (a := ⟨d.br, 0, none⟩) (Below.heap_setCell wX ⟨d.b, 3, none⟩ (.slice (some ⟨gX, 0, none⟩) (Wr.length + 2) capX) d.br HNe.out)]
                                      exact fxX.cell t0 H67.out.2.2.1
                                    obtain ⟨_, z1, _, _, _, _, _⟩ := keep_cells kfX.hb
                                    have z2 := fxX.cell t0 H67.out.2.2.1
                                    have HKX := hid_mk kfX
                                    have HFX := hid_mk (HF6.out.trans fxX)
                                    have HLX := hid_mk lfX
                                    have HCX := hid_mk cfX
                                    clear hbX fxX kfX lfX cfX yf ownX grX
                                    refine hK.out _ _ ?hS225 (fun hHeld2 => ?rest225)
                                    case hS225 => exact ⟨y1, y2⟩
                                    clear hK K
                                    (try clear hHeld)
                                    have hHeld := hHeld2
                                    clear hHeld2
                                    (try simp only [Act.put, List.getElem_toArray, List.getElem_cons_zero, List.getElem_cons_succ, List.setIfInBounds_toArray, List.set_cons_zero, List.set_cons_succ])
                                    refine wpAnyH_take (i := 23) (v := ?v226) rfl (by kernel_rfl) (by kernel_rfl) (by kernel_rfl) (fun _ _ _ h => h) (Or.inl ⟨by rfl, ?hy226⟩) (by assumption) ?rest226
                                    case hy226 => (intro w hSw; (try dsimp only at hSw); simp only [List.getElem_toArray, List.getElem_cons_zero, List.getElem_cons_succ]; go_simp; (try with_reducible rfl))
                                    (try simp only [Act.put, List.getElem_toArray, List.getElem_cons_zero, List.getElem_cons_succ, List.setIfInBounds_toArray, List.set_cons_zero, List.set_cons_succ])
                                    refine wpAnyH_take (i := 24) (v := ?v227) rfl (by kernel_rfl) (by kernel_rfl) (by kernel_rfl) (fun _ _ _ h => h) (Or.inl ⟨by rfl, ?hy227⟩) (by assumption) ?rest227
                                    case hy227 => (intro w hSw; (try dsimp only at hSw); simp only [List.getElem_toArray, List.getElem_cons_zero, List.getElem_cons_succ]; go_simp; (try with_reducible rfl))
                                    (try simp only [Act.put, List.getElem_toArray, List.getElem_cons_zero, List.getElem_cons_succ, List.setIfInBounds_toArray, List.set_cons_zero, List.set_cons_succ])
                                    refine wpAnyH_ready (rs := [25]) (by kernel_rfl) (by simp) ?_
                                    refine AllReadyH.cons rfl (fun K hK => ?_) ?_
                                    · simp only [List.getElem_toArray, List.getElem_cons_zero, List.getElem_cons_succ]
                                      go_simp
                                      refine hK.out _ _ ?hS228 (fun hHeld2 => ?rest228)
                                      case hS228 => exact ⟨z1, z2⟩
                                      clear hK K
                                      (try clear hHeld)
                                      have hHeld := hHeld2
                                      clear hHeld2
                                      (try simp only [Act.put, List.getElem_toArray, List.getElem_cons_zero, List.getElem_cons_succ, List.setIfInBounds_toArray, List.set_cons_zero, List.set_cons_succ])
                                      refine wpAnyH_done (by kernel_rfl) ?_ _
                                      obtain ⟨W10, hW10⟩ : ∃ W10, wX.setCell ⟨d.b, 3, none⟩ (.slice (some ⟨gX, 0, none⟩) (Wr.length + 2) capX) = W10 := ⟨_, rfl⟩
                                      rw [hW10] at HKX HFX HLX ⊢
                                      have HMk := hid_mk (mark_any HKX.out HLX.out HCX.out Hk3.out (by have := Hk3.out; have := HnS.out; omega) (by rw [pgl_len]; omega))
                                      clear hW10 y1 y2 y3 yf3 z1 z2 hHeld m1 m2 m3 u1 u2 u3 u1' u2' u3' s1 s3 t0
                                      go_wp2_with (go_at_call 29; refine HMk.out.mono ?_; rintro e w11 ⟨rfl, hme⟩)
                                      go_ret
                                      obtain ⟨xS, xM, xLs, xMk, xcol, k1, k2, k3, k4⟩ := hme
                                      exact ⟨rfl, _, (Act.quiet HP.out HO1.out).trans (HP1.out.fixed (HFX.out.trans k4) k1 (fun _ => by rw [List.length_append, List.length_append, Hk1.out]; rfl) rfl k2 k3 (look_nums HN.out HU.out Hk2.out Hk3.out Hk4.out HnS.out (by omega))), rfl⟩
                                    · exact AllReadyH.nil
                                  · exact AllReadyH.nil
                                · exact AllReadyH.nil
                              · refine AllReadyH.cons rfl (fun K hK => ?_) ?_
                                · simp only [List.getElem_toArray, List.getElem_cons_zero, List.getElem_cons_succ]
                                  go_simp
                                  refine hK.out _ _ ?hS229 (fun hHeld2 => ?rest229)
                                  case hS229 => exact ⟨u1', u2'⟩
                                  clear hK K
                                  (try clear hHeld)
                                  have hHeld := hHeld2
                                  clear hHeld2
                                  (try simp only [Act.put, List.getElem_toArray, List.getElem_cons_zero, List.getElem_cons_succ, List.setIfInBounds_toArray, List.set_cons_zero, List.set_cons_succ])
                                  refine wpAnyH_ready (rs := [4]) (by kernel_rfl) (by simp) ?_
                                  refine AllReadyH.cons rfl (fun K hK => ?_) ?_
                                  · simp only [List.getElem_toArray, List.getElem_cons_zero, List.getElem_cons_succ]
                                    go_simp
                                    refine hK.out _ _ ?hS230 (fun hHeld2 => ?rest230)
                                    case hS230 => assumption
                                    clear hK K
                                    (try clear hHeld)
                                    have hHeld := hHeld2
                                    clear hHeld2
                                    (try simp only [Act.put, List.getElem_toArray, List.getElem_cons_zero, List.getElem_cons_succ, List.setIfInBounds_toArray, List.set_cons_zero, List.set_cons_succ])
                                    refine wpAnyH_ready (rs := [22]) (by kernel_rfl) (by simp) ?_
                                    refine AllReadyH.cons rfl (fun K hK => ?_) ?_
                                    · refine app_step (by rfl) _ _ 56 (by rfl) B 37 i1 (.slice none 0 0) 24 Tryd.underlying56 hi1 hy0 hy1 hy2 rfl (.slice aW Wr.length capW) Wr.length Wr (by rfl) (own_kept HK6.out.oW (HO9.out.alloc _) (Nat.zero_le _)) ⟨w9.heap.size, 0, none⟩ 2 2 [.slice (some ⟨ga8, 0, none⟩) n cap8, .slice (some ⟨gb9, 0, none⟩) n cap9] (by rfl) (by rfl) (two_cells _ _ _ _) (two_one rfl rfl) (by decide) (by unfold maxLen; have := HkL.out; have := Hk1.out; omega) (by have := HkL.out; have := Hk1.out; omega) (by have := HSz.out; have := HO9.out.size; simp; omega) ?_
                                      intro gX capX wX ownX grX
                                      obtain ⟨hbX, colX, fxX, kfX, lfX, cfX⟩ := were_two HK6.out ⟨(by show (if Wr.length + 0 < L.length then C (Wr.length + 0) else _) = _; rw [if_neg (by have := Hk1.out; omega)]), (by show (if Wr.length + 1 < L.length then C (Wr.length + 1) else _) = _; rw [if_neg (by have := Hk1.out; omega)])⟩ HL6.out HC6.out HO8.out HL8.out HO89.out HL9.out ((Out.refl 0 0 _).alloc _) ownX grX
                                      obtain ⟨_, y1, _, y3, _, _, yf⟩ := keep_cells hbX
                                      have yf3 := yf 3
                                      have y2 : wX.cell? ⟨d.br, 0, none⟩ = some (.slice (some ⟨d.bwr, 0, none⟩) n capq) := by
                                        rw [← World.cell?_of_block (w := wX) (a := ⟨d.br, 0, none⟩) (Below.heap_setCell wX ⟨d.b, 3, none⟩ (.slice (some ⟨gX, 0, none⟩) (Wr.length + 2) capX) d.br HNe.out)]
                                        exact fxX.cell t0 H67.out.2.2.1
                                      obtain ⟨_, z1, _, _, _, _, _⟩ := keep_cells kfX.hb
                                      have z2 := fxX.cell t0 H67.out.2.2.1
                                      have HKX := hid_mk kfX
                                      have HFX := hid_mk (HF6.out.trans fxX)
                                      have HLX := hid_mk lfX
                                      have HCX := hid_mk cfX
                                      clear hbX fxX kfX lfX cfX yf ownX grX
                                      refine hK.out _ _ ?hS231 (fun hHeld2 => ?rest231)
                                      case hS231 => exact ⟨y1, y2⟩
                                      clear hK K
                                      (try clear hHeld)
                                      have hHeld := hHeld2
                                      clear hHeld2
                                      (try simp only [Act.put, List.getElem_toArray, List.getElem_cons_zero, List.getElem_cons_succ, List.setIfInBounds_toArray, List.set_cons_zero, List.set_cons_succ])
                                      refine wpAnyH_take (i := 23) (v := ?v232) rfl (by kernel_rfl) (by kernel_rfl) (by kernel_rfl) (fun _ _ _ h => h) (Or.inl ⟨by rfl, ?hy232⟩) (by assumption) ?rest232
                                      case hy232 => (intro w hSw; (try dsimp only at hSw); simp only [List.getElem_toArray, List.getElem_cons_zero, List.getElem_cons_succ]; go_simp; (try with_reducible rfl))
                                      (try simp only [Act.put, List.getElem_toArray, List.getElem_cons_zero, List.getElem_cons_succ, List.setIfInBounds_toArray, List.set_cons_zero, List.set_cons_succ])
                                      refine wpAnyH_take (i := 24) (v := ?v233) rfl (by kernel_rfl) (by kernel_rfl) (by kernel_rfl) (fun _ _ _ h => h) (Or.inl ⟨by rfl, ?hy233⟩) (by assumption) ?rest233
                                      case hy233 => (intro w hSw; (try dsimp only at hSw); simp only [List.getElem_toArray, List.getElem_cons_zero, List.getElem_cons_succ]; go_simp; (try with_reducible rfl))
                                      (try simp only [Act.put, List.getElem_toArray, List.getElem_cons_zero, List.getElem_cons_succ, List.setIfInBounds_toArray, List.set_cons_zero, List.set_cons_succ])
                                      refine wpAnyH_ready (rs := [25]) (by kernel_rfl) (by simp) ?_
                                      refine AllReadyH.cons rfl (fun K hK => ?_) ?_
                                      · simp only [List.getElem_toArray, List.getElem_cons_zero, List.getElem_cons_succ]
                                        go_simp
                                        refine hK.out _ _ ?hS234 (fun hHeld2 => ?rest234)
                                        case hS234 => exact ⟨z1, z2⟩
                                        clear hK K
                                        (try clear hHeld)
                                        have hHeld := hHeld2
                                        clear hHeld2
                                        (try simp only [Act.put, List.getElem_toArray, List.getElem_cons_zero, List.getElem_cons_succ, List.setIfInBounds_toArray, List.set_cons_zero, List.set_cons_succ])
                                        refine wpAnyH_done (by kernel_rfl) ?_ _
                                        obtain ⟨W10, hW10⟩ : ∃ W10, wX.setCell ⟨d.b, 3, none⟩ (.slice (some ⟨gX, 0, none⟩) (Wr.length + 2) capX) = W10 := ⟨_, rfl⟩
                                        rw [hW10] at HKX HFX HLX ⊢
                                        have HMk := hid_mk (mark_any HKX.out HLX.out HCX.out Hk3.out (by have := Hk3.out; have := HnS.out; omega) (by rw [pgl_len]; omega))
                                        clear hW10 y1 y2 y3 yf3 z1 z2 hHeld m1 m2 m3 u1 u2 u3 u1' u2' u3' s1 s3 t0
                                        go_wp2_with (go_at_call 29; refine HMk.out.mono ?_; rintro e w11 ⟨rfl, hme⟩)
                                        go_ret
                                        obtain ⟨xS, xM, xLs, xMk, xcol, k1, k2, k3, k4⟩ := hme
                                        exact ⟨rfl, _, (Act.quiet HP.out HO1.out).trans (HP1.out.fixed (HFX.out.trans k4) k1 (fun _ => by rw [List.length_append, List.length_append, Hk1.out]; rfl) rfl k2 k3 (look_nums HN.out HU.out Hk2.out Hk3.out Hk4.out HnS.out (by omega))), rfl⟩
                                      · exact AllReadyH.nil
                                    · exact AllReadyH.nil
                                  · exact AllReadyH.nil
                                · exact AllReadyH.nil
                            · exact AllReadyH.nil
                        · exact AllReadyH.nil
                    · exact AllReadyH.nil
                  · exact AllReadyH.nil
                · exact AllReadyH.nil
              · exact AllReadyH.nil
          · exact AllReadyH.nil
      · exact AllReadyH.nil
  · by_cases hg : nS < 600
    · have b1 : (nS : Int) < 600 := by omega
      have b2 : (64 : Int) < (n : Int) := by omega
      clear hgo hg
      go_wp2
      go_ret
      exact ⟨rfl, _, (Act.quiet HP.out HO1.out).out (HO2.out.trans HO3.out), HU.out⟩
    · have b1 : (600 : Int) ≤ (nS : Int) := by omega
      clear hgo hg
      go_wp2
      go_ret
      exact ⟨rfl, _, (Act.quiet HP.out HO1.out).out (HO2.out.trans HO3.out), HU.out⟩
end Go.Proofs.YtfkmaanfgkkjcaaDoor
