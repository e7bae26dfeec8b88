/- a step that looks: State, Free and Len -/
import Derived.Test.YtfkmaanfgkkjcaaDoorGq
namespace Go.Proofs.YtfkmaanfgkkjcaaDoor
open Go.RowKit
set_option linter.unusedVariables false
set_option linter.unusedSimpArgs false

theorem set3_at {w : World} {b : Nat} {u v t x y z : Value} {T : TypeId} (h : w.heap[b]? = some (.cells #[u, v, t] T (0, 0))) : (((w.setCell ⟨b, 0, none⟩ x).setCell ⟨b, 1, none⟩ y).setCell ⟨b, 2, none⟩ z).heap[b]? = some (.cells #[x, y, z] T (0, 0)) := by
  simp [World.setCell, Array.getElem?_modify, h]
theorem frozen_at {w : World} {b : Nat} {c : Array Value} {T : TypeId} (h : w.heap[b]? = some (.cells c T (0, 0))) (i : Nat) : w.frozen? ⟨b, i, none⟩ = false := by
  simp [World.frozen?, h]
set_option maxRecDepth 100000 in
set_option maxHeartbeats 40000000 in
theorem looked_10 {B : Nat} {w : World} {d : Desc} (h : PairK B w d) (z a : Int) :
    Calls Tryd.prog 11 #[.pointer (some ⟨d.b, 0, none⟩), .agg #[.int .i64 z, .int .i64 10, .int .i64 a]] w fun e w' => e = .returned (.bool true) ∧ ∃ d', Act B w w' d d' ∧ d'.u = d.u := by
  have HP := hid_mk h
  have o1 : Out 0 0 w (w.alloc (.cells #[.int .i64 z, .int .i64 10, .int .i64 a] 28)) := (Out.refl _ _ _).alloc _
  have hx := heap_alloc_new w (.cells #[.int .i64 z, .int .i64 10, .int .i64 a] 28)
  obtain ⟨X, hX⟩ : ∃ X, w.heap.size = X := ⟨_, rfl⟩
  obtain ⟨W1, hW⟩ : ∃ W1, w.alloc (.cells #[.int .i64 z, .int .i64 10, .int .i64 a] 28) = W1 := ⟨_, rfl⟩
  rw [hW] at o1 hx
  rw [hX] at hx
  have HO1 := hid_mk o1
  have HP1 := hid_mk (h.quiet o1)
  obtain ⟨x, y, t, hp⟩ := page_of (stP d.S d.n a)
  obtain ⟨ok, hok⟩ : ∃ ok, inB d.n a = ok := ⟨_, rfl⟩
  have HC : Hid (∀ w', Out 0 0 W1 w' → Calls Tryd.prog 22 #[.pointer (some ⟨d.bt, 0, none⟩), .int .i64 a] w' fun e w'' => e = .returned (.tuple #[.agg #[.int .i64 x, .int .i64 y, .int .i64 t], .bool ok]) ∧ Out 0 0 w' w'') := fun w' o => by have := state_any (HP1.out.quiet o).2.2.1 a; rw [hp, hok] at this; exact this
  have HR : Hid (∀ w', Out 0 0 W1 w' → Calls Tryd.prog 26 #[.pointer (some ⟨d.br, 0, none⟩), .int .i64 a] w' fun e w'' => e = .returned (.tuple #[.agg #[.int .i64 x, .int .i64 y, .int .i64 t], .bool ok]) ∧ Out 0 0 w' w'') := fun w' o => by have := refState_any (HP1.out.quiet o).2.2.2.1 a; rw [hp, hok] at this; exact this
  obtain ⟨x0, x1, x2⟩ := op_cells hx
  obtain ⟨c0, c1⟩ := HP1.out.cells
  clear h o1 hx hp hok
  go_enter Tryd.func11, Tryd.ntmps11
  go_wp2_with fail
  refine wp_region_held_drew (S := fun w' => w'.cell? ⟨d.b, 0, none⟩ = some (.pointer (some ⟨d.bt, 0, none⟩)) ∧ w'.cell? ⟨X, 2, none⟩ = some (.int .i64 a)) (by kernel_rfl) ?hS1 (fun hHeld => ?rest1)
  case hS1 => exact ⟨c0, x2⟩
  refine wpAnyH_take (i := 0) (v := ?v2) rfl (by kernel_rfl) (by kernel_rfl) (by kernel_rfl) (fun _ _ _ h => h) (Or.inl ⟨by rfl, ?hy2⟩) (by assumption) ?rest2
  case hy2 => (intro w hSw; (try dsimp only at hSw); simp only [List.getElem_toArray, List.getElem_cons_zero, List.getElem_cons_succ]; go_simp; (try with_reducible rfl))
  (try simp only [Act.put, List.getElem_toArray, List.getElem_cons_zero, List.getElem_cons_succ, List.setIfInBounds_toArray, List.set_cons_zero, List.set_cons_succ])
  refine wpAnyH_take (i := 1) (v := ?v3) rfl (by kernel_rfl) (by kernel_rfl) (by kernel_rfl) (fun _ _ _ h => h) (Or.inl ⟨by rfl, ?hy3⟩) (by assumption) ?rest3
  case hy3 => (intro w hSw; (try dsimp only at hSw); simp only [List.getElem_toArray, List.getElem_cons_zero, List.getElem_cons_succ]; go_simp; (try with_reducible rfl))
  (try simp only [Act.put, List.getElem_toArray, List.getElem_cons_zero, List.getElem_cons_succ, List.setIfInBounds_toArray, List.set_cons_zero, List.set_cons_succ])
  refine wpAnyH_take (i := 2) (v := ?v4) rfl (by kernel_rfl) (by kernel_rfl) (by kernel_rfl) (fun _ _ _ h => h) (Or.inl ⟨by rfl, ?hy4⟩) (by assumption) ?rest4
  case hy4 => (intro w hSw; (try dsimp only at hSw); simp only [List.getElem_toArray, List.getElem_cons_zero, List.getElem_cons_succ]; go_simp; (try with_reducible rfl))
  (try simp only [Act.put, List.getElem_toArray, List.getElem_cons_zero, List.getElem_cons_succ, List.setIfInBounds_toArray, List.set_cons_zero, List.set_cons_succ])
  refine wpAnyH_take (i := 3) (v := ?v5) rfl (by kernel_rfl) (by kernel_rfl) (by kernel_rfl) (fun _ _ _ h => h) (Or.inl ⟨by rfl, ?hy5⟩) (by assumption) ?rest5
  case hy5 => (intro w hSw; (try dsimp only at hSw); simp only [List.getElem_toArray, List.getElem_cons_zero, List.getElem_cons_succ]; go_simp; (try with_reducible rfl))
  (try simp only [Act.put, List.getElem_toArray, List.getElem_cons_zero, List.getElem_cons_succ, List.setIfInBounds_toArray, List.set_cons_zero, List.set_cons_succ])
  refine wpAnyH_take (i := 4) (v := ?v6) rfl (by kernel_rfl) (by kernel_rfl) (by kernel_rfl) (fun _ _ _ h => h) (Or.inl ⟨by rfl, ?hy6⟩) (by assumption) ?rest6
  case hy6 => (intro w hSw; (try dsimp only at hSw); simp only [List.getElem_toArray, List.getElem_cons_zero, List.getElem_cons_succ]; go_simp; (try with_reducible rfl))
  (try simp only [Act.put, List.getElem_toArray, List.getElem_cons_zero, List.getElem_cons_succ, List.setIfInBounds_toArray, List.set_cons_zero, List.set_cons_succ])
  refine wpAnyH_take (i := 5) (v := ?v7) rfl (by kernel_rfl) (by kernel_rfl) (by kernel_rfl) (fun _ _ _ h => h) (Or.inl ⟨by rfl, ?hy7⟩) (by assumption) ?rest7
  case hy7 => (intro w hSw; (try dsimp only at hSw); simp only [List.getElem_toArray, List.getElem_cons_zero, List.getElem_cons_succ]; go_simp; (try with_reducible rfl))
  (try simp only [Act.put, List.getElem_toArray, List.getElem_cons_zero, List.getElem_cons_succ, List.setIfInBounds_toArray, List.set_cons_zero, List.set_cons_succ])
  refine wpAnyH_ready (rs := [6, 10]) (by kernel_rfl) (by simp) ?_
  refine AllReadyH.cons rfl (fun K hK => ?_) ?_
  · simp only [List.getElem_toArray, List.getElem_cons_zero, List.getElem_cons_succ]
    go_simp
    refine (HC.out _ ?hw8).mono ?_
    (case hw8 => exact (Out.refl 0 0 _).drew)
    rintro e w2 ⟨rfl, hOO⟩
    have oW : Out 0 0 W1 w2 := ((Out.refl 0 0 W1).drew).trans hOO
    go_wp2_with fail
    refine hK.out _ _ ?hS8 (fun hHeld2 => ?rest8)
    case hS8 => exact ⟨oW.cell c0 (.inr (Nat.zero_le _)), oW.cell x2 (.inr (Nat.zero_le _))⟩
    clear hK K
    (try clear hHeld)
    have hHeld := hHeld2
    clear hHeld2
    (try simp only [Act.put, List.getElem_toArray, List.getElem_cons_zero, List.getElem_cons_succ, List.setIfInBounds_toArray, List.set_cons_zero, List.set_cons_succ])
    refine wpAnyH_take (i := 7) (v := ?v9) rfl (by kernel_rfl) (by kernel_rfl) (by kernel_rfl) (fun _ _ _ h => h) (Or.inl ⟨by rfl, ?hy9⟩) (by assumption) ?rest9
    case hy9 => (intro w hSw; (try dsimp only at hSw); simp only [List.getElem_toArray, List.getElem_cons_zero, List.getElem_cons_succ]; go_simp; (try with_reducible rfl))
    (try simp only [Act.put, List.getElem_toArray, List.getElem_cons_zero, List.getElem_cons_succ, List.setIfInBounds_toArray, List.set_cons_zero, List.set_cons_succ])
    refine wpAnyH_take (i := 8) (v := ?v10) rfl (by kernel_rfl) (by kernel_rfl) (by kernel_rfl) (fun _ _ _ h => h) (Or.inl ⟨by rfl, ?hy10⟩) (by assumption) ?rest10
    case hy10 => (intro w hSw; (try dsimp only at hSw); simp only [List.getElem_toArray, List.getElem_cons_zero, List.getElem_cons_succ]; go_simp; (try with_reducible rfl))
    (try simp only [Act.put, List.getElem_toArray, List.getElem_cons_zero, List.getElem_cons_succ, List.setIfInBounds_toArray, List.set_cons_zero, List.set_cons_succ])
    refine wpAnyH_take (i := 9) (v := ?v11) rfl (by kernel_rfl) (by kernel_rfl) (by kernel_rfl) (fun _ _ _ h => h) (Or.inl ⟨by rfl, ?hy11⟩) (by assumption) ?rest11
    case hy11 => (intro w hSw; (try dsimp only at hSw); simp only [List.getElem_toArray, List.getElem_cons_zero, List.getElem_cons_succ]; go_simp; (try with_reducible rfl))
    (try simp only [Act.put, List.getElem_toArray, List.getElem_cons_zero, List.getElem_cons_succ, List.setIfInBounds_toArray, List.set_cons_zero, List.set_cons_succ])
    refine wpAnyH_ready (rs := [10]) (by kernel_rfl) (by simp) ?_
    refine AllReadyH.cons rfl (fun K hK => ?_) ?_
    · simp only [List.getElem_toArray, List.getElem_cons_zero, List.getElem_cons_succ]
      go_simp
      refine hK.out _ _ ?hS12 (fun hHeld2 => ?rest12)
      case hS12 => exact ⟨(oW.alloc _).cell c0 (.inr (Nat.zero_le _)), (oW.alloc _).cell x2 (.inr (Nat.zero_le _))⟩
      clear hK K
      (try clear hHeld)
      have hHeld := hHeld2
      clear hHeld2
      (try simp only [Act.put, List.getElem_toArray, List.getElem_cons_zero, List.getElem_cons_succ, List.setIfInBounds_toArray, List.set_cons_zero, List.set_cons_succ])
      refine wpAnyH_ready (rs := [11]) (by kernel_rfl) (by simp) ?_
      refine AllReadyH.cons rfl (fun K hK => ?_) ?_
      · simp only [List.getElem_toArray, List.getElem_cons_zero, List.getElem_cons_succ]
        go_simp
        refine hK.out _ _ ?hS13 (fun hHeld2 => ?rest13)
        case hS13 => exact ⟨(oW.alloc _).cell c0 (.inr (Nat.zero_le _)), (oW.alloc _).cell x2 (.inr (Nat.zero_le _))⟩
        clear hK K
        (try clear hHeld)
        have hHeld := hHeld2
        clear hHeld2
        (try simp only [Act.put, List.getElem_toArray, List.getElem_cons_zero, List.getElem_cons_succ, List.setIfInBounds_toArray, List.set_cons_zero, List.set_cons_succ])
        refine wpAnyH_take (i := 12) (v := ?v14) rfl (by kernel_rfl) (by kernel_rfl) (by kernel_rfl) (fun _ _ _ h => h) (Or.inl ⟨by rfl, ?hy14⟩) (by assumption) ?rest14
        case hy14 => (intro w hSw; (try dsimp only at hSw); simp only [List.getElem_toArray, List.getElem_cons_zero, List.getElem_cons_succ]; go_simp; (try with_reducible rfl))
        (try simp only [Act.put, List.getElem_toArray, List.getElem_cons_zero, List.getElem_cons_succ, List.setIfInBounds_toArray, List.set_cons_zero, List.set_cons_succ])
        refine wpAnyH_done (by kernel_rfl) ?_ _
        have HO2 : Hid (Out 0 0 W1 (w2.alloc (.cells #[.int .i64 x, .int .i64 y, .int .i64 t] 45))) := oW.alloc _
        have hbn : (w2.alloc (.cells #[.int .i64 x, .int .i64 y, .int .i64 t] 45)).heap[w2.heap.size]? = some (.cells #[.int .i64 x, .int .i64 y, .int .i64 t] 45 (0, 0)) := heap_alloc_new w2 (.cells #[.int .i64 x, .int .i64 y, .int .i64 t] 45)
        obtain ⟨Y, hY⟩ : ∃ Y, w2.heap.size = Y := ⟨_, rfl⟩
        obtain ⟨W3, hW3⟩ : ∃ WN, w2.alloc (.cells #[.int .i64 x, .int .i64 y, .int .i64 t] 45) = WN := ⟨_, rfl⟩
        rw [hW3] at HO2 hbn ⊢
        rw [hY] at hbn ⊢
        have HB2 := hid_mk hbn
        clear oW hOO hbn hW3 hY hHeld
        have y2 := HO2.out.cell x2 (.inr (Nat.zero_le _))
        have y1 := HO2.out.cell c1 (.inr (Nat.zero_le _))
        clear c0 c1 x0 x1 x2 HC
        go_wp2_with fail
        refine wp_region_held_drew (S := fun w' => w'.cell? ⟨d.b, 1, none⟩ = some (.pointer (some ⟨d.br, 0, none⟩)) ∧ w'.cell? ⟨X, 2, none⟩ = some (.int .i64 a)) (by kernel_rfl) ?hS15 (fun hHeld => ?rest15)
        case hS15 => exact ⟨y1, y2⟩
        refine wpAnyH_take (i := 0) (v := ?v16) rfl (by kernel_rfl) (by kernel_rfl) (by kernel_rfl) (fun _ _ _ h => h) (Or.inl ⟨by rfl, ?hy16⟩) (by assumption) ?rest16
        case hy16 => (intro w hSw; (try dsimp only at hSw); simp only [List.getElem_toArray, List.getElem_cons_zero, List.getElem_cons_succ]; go_simp; (try with_reducible rfl))
        (try simp only [Act.put, List.getElem_toArray, List.getElem_cons_zero, List.getElem_cons_succ, List.setIfInBounds_toArray, List.set_cons_zero, List.set_cons_succ])
        refine wpAnyH_take (i := 1) (v := ?v17) rfl (by kernel_rfl) (by kernel_rfl) (by kernel_rfl) (fun _ _ _ h => h) (Or.inl ⟨by rfl, ?hy17⟩) (by assumption) ?rest17
        case hy17 => (intro w hSw; (try dsimp only at hSw); simp only [List.getElem_toArray, List.getElem_cons_zero, List.getElem_cons_succ]; go_simp; (try with_reducible rfl))
        (try simp only [Act.put, List.getElem_toArray, List.getElem_cons_zero, List.getElem_cons_succ, List.setIfInBounds_toArray, List.set_cons_zero, List.set_cons_succ])
        refine wpAnyH_take (i := 2) (v := ?v18) rfl (by kernel_rfl) (by kernel_rfl) (by kernel_rfl) (fun _ _ _ h => h) (Or.inl ⟨by rfl, ?hy18⟩) (by assumption) ?rest18
        case hy18 => (intro w hSw; (try dsimp only at hSw); simp only [List.getElem_toArray, List.getElem_cons_zero, List.getElem_cons_succ]; go_simp; (try with_reducible rfl))
        (try simp only [Act.put, List.getElem_toArray, List.getElem_cons_zero, List.getElem_cons_succ, List.setIfInBounds_toArray, List.set_cons_zero, List.set_cons_succ])
        refine wpAnyH_take (i := 3) (v := ?v19) rfl (by kernel_rfl) (by kernel_rfl) (by kernel_rfl) (fun _ _ _ h => h) (Or.inl ⟨by rfl, ?hy19⟩) (by assumption) ?rest19
        case hy19 => (intro w hSw; (try dsimp only at hSw); simp only [List.getElem_toArray, List.getElem_cons_zero, List.getElem_cons_succ]; go_simp; (try with_reducible rfl))
        (try simp only [Act.put, List.getElem_toArray, List.getElem_cons_zero, List.getElem_cons_succ, List.setIfInBounds_toArray, List.set_cons_zero, List.set_cons_succ])
        refine wpAnyH_take (i := 4) (v := ?v20) rfl (by kernel_rfl) (by kernel_rfl) (by kernel_rfl) (fun _ _ _ h => h) (Or.inl ⟨by rfl, ?hy20⟩) (by assumption) ?rest20
        case hy20 => (intro w hSw; (try dsimp only at hSw); simp only [List.getElem_toArray, List.getElem_cons_zero, List.getElem_cons_succ]; go_simp; (try with_reducible rfl))
        (try simp only [Act.put, List.getElem_toArray, List.getElem_cons_zero, List.getElem_cons_succ, List.setIfInBounds_toArray, List.set_cons_zero, List.set_cons_succ])
        refine wpAnyH_take (i := 5) (v := ?v21) rfl (by kernel_rfl) (by kernel_rfl) (by kernel_rfl) (fun _ _ _ h => h) (Or.inl ⟨by rfl, ?hy21⟩) (by assumption) ?rest21
        case hy21 => (intro w hSw; (try dsimp only at hSw); simp only [List.getElem_toArray, List.getElem_cons_zero, List.getElem_cons_succ]; go_simp; (try with_reducible rfl))
        (try simp only [Act.put, List.getElem_toArray, List.getElem_cons_zero, List.getElem_cons_succ, List.setIfInBounds_toArray, List.set_cons_zero, List.set_cons_succ])
        refine wpAnyH_ready (rs := [6, 10]) (by kernel_rfl) (by simp) ?_
        refine AllReadyH.cons rfl (fun K hK => ?_) ?_
        · simp only [List.getElem_toArray, List.getElem_cons_zero, List.getElem_cons_succ]
          go_simp
          refine (HR.out _ ?hw22).mono ?_
          (case hw22 => exact HO2.out.drew)
          rintro e w4 ⟨rfl, hOO⟩
          have oW : Out 0 0 W3 w4 := ((Out.refl 0 0 W3).drew).trans hOO
          go_wp2_with fail
          refine hK.out _ _ ?hS22 (fun hHeld2 => ?rest22)
          case hS22 => exact ⟨oW.cell y1 (.inr (Nat.zero_le _)), oW.cell y2 (.inr (Nat.zero_le _))⟩
          clear hK K
          (try clear hHeld)
          have hHeld := hHeld2
          clear hHeld2
          (try simp only [Act.put, List.getElem_toArray, List.getElem_cons_zero, List.getElem_cons_succ, List.setIfInBounds_toArray, List.set_cons_zero, List.set_cons_succ])
          refine wpAnyH_take (i := 7) (v := ?v23) rfl (by kernel_rfl) (by kernel_rfl) (by kernel_rfl) (fun _ _ _ h => h) (Or.inl ⟨by rfl, ?hy23⟩) (by assumption) ?rest23
          case hy23 => (intro w hSw; (try dsimp only at hSw); simp only [List.getElem_toArray, List.getElem_cons_zero, List.getElem_cons_succ]; go_simp; (try with_reducible rfl))
          (try simp only [Act.put, List.getElem_toArray, List.getElem_cons_zero, List.getElem_cons_succ, List.setIfInBounds_toArray, List.set_cons_zero, List.set_cons_succ])
          refine wpAnyH_take (i := 8) (v := ?v24) rfl (by kernel_rfl) (by kernel_rfl) (by kernel_rfl) (fun _ _ _ h => h) (Or.inl ⟨by rfl, ?hy24⟩) (by assumption) ?rest24
          case hy24 => (intro w hSw; (try dsimp only at hSw); simp only [List.getElem_toArray, List.getElem_cons_zero, List.getElem_cons_succ]; go_simp; (try with_reducible rfl))
          (try simp only [Act.put, List.getElem_toArray, List.getElem_cons_zero, List.getElem_cons_succ, List.setIfInBounds_toArray, List.set_cons_zero, List.set_cons_succ])
          refine wpAnyH_take (i := 9) (v := ?v25) rfl (by kernel_rfl) (by kernel_rfl) (by kernel_rfl) (fun _ _ _ h => h) (Or.inl ⟨by rfl, ?hy25⟩) (by assumption) ?rest25
          case hy25 => (intro w hSw; (try dsimp only at hSw); simp only [List.getElem_toArray, List.getElem_cons_zero, List.getElem_cons_succ]; go_simp; (try with_reducible rfl))
          (try simp only [Act.put, List.getElem_toArray, List.getElem_cons_zero, List.getElem_cons_succ, List.setIfInBounds_toArray, List.set_cons_zero, List.set_cons_succ])
          refine wpAnyH_ready (rs := [10]) (by kernel_rfl) (by simp) ?_
          refine AllReadyH.cons rfl (fun K hK => ?_) ?_
          · simp only [List.getElem_toArray, List.getElem_cons_zero, List.getElem_cons_succ]
            go_simp
            refine hK.out _ _ ?hS26 (fun hHeld2 => ?rest26)
            case hS26 => exact ⟨(oW.alloc _).cell y1 (.inr (Nat.zero_le _)), (oW.alloc _).cell y2 (.inr (Nat.zero_le _))⟩
            clear hK K
            (try clear hHeld)
            have hHeld := hHeld2
            clear hHeld2
            (try simp only [Act.put, List.getElem_toArray, List.getElem_cons_zero, List.getElem_cons_succ, List.setIfInBounds_toArray, List.set_cons_zero, List.set_cons_succ])
            refine wpAnyH_ready (rs := [11]) (by kernel_rfl) (by simp) ?_
            refine AllReadyH.cons rfl (fun K hK => ?_) ?_
            · simp only [List.getElem_toArray, List.getElem_cons_zero, List.getElem_cons_succ]
              go_simp
              refine hK.out _ _ ?hS27 (fun hHeld2 => ?rest27)
              case hS27 => exact ⟨(oW.alloc _).cell y1 (.inr (Nat.zero_le _)), (oW.alloc _).cell y2 (.inr (Nat.zero_le _))⟩
              clear hK K
              (try clear hHeld)
              have hHeld := hHeld2
              clear hHeld2
              (try simp only [Act.put, List.getElem_toArray, List.getElem_cons_zero, List.getElem_cons_succ, List.setIfInBounds_toArray, List.set_cons_zero, List.set_cons_succ])
              refine wpAnyH_take (i := 12) (v := ?v28) rfl (by kernel_rfl) (by kernel_rfl) (by kernel_rfl) (fun _ _ _ h => h) (Or.inl ⟨by rfl, ?hy28⟩) (by assumption) ?rest28
              case hy28 => (intro w hSw; (try dsimp only at hSw); simp only [List.getElem_toArray, List.getElem_cons_zero, List.getElem_cons_succ]; go_simp; (try with_reducible rfl))
              (try simp only [Act.put, List.getElem_toArray, List.getElem_cons_zero, List.getElem_cons_succ, List.setIfInBounds_toArray, List.set_cons_zero, List.set_cons_succ])
              refine wpAnyH_done (by kernel_rfl) ?_ _
              have HO4 : Hid (Out 0 0 W3 (w4.alloc (.cells #[.int .i64 x, .int .i64 y, .int .i64 t] 45))) := oW.alloc _
              have hbn : (w4.alloc (.cells #[.int .i64 x, .int .i64 y, .int .i64 t] 45)).heap[w4.heap.size]? = some (.cells #[.int .i64 x, .int .i64 y, .int .i64 t] 45 (0, 0)) := heap_alloc_new w4 (.cells #[.int .i64 x, .int .i64 y, .int .i64 t] 45)
              obtain ⟨Z, hZ⟩ : ∃ Y, w4.heap.size = Y := ⟨_, rfl⟩
              obtain ⟨W5, hW5⟩ : ∃ WN, w4.alloc (.cells #[.int .i64 x, .int .i64 y, .int .i64 t] 45) = WN := ⟨_, rfl⟩
              rw [hW5] at HO4 hbn ⊢
              rw [hZ] at hbn ⊢
              have HB4 := hid_mk hbn
              clear oW hOO hbn hW5 hZ hHeld
              obtain ⟨p0, p1, p2⟩ := box3 (HO4.out.heap HB2.out (.inr (Nat.zero_le _)))
              obtain ⟨q0, q1, q2⟩ := box3 HB4.out
              have e1 : (x == x) = true := by simp
              have e2 : (y == y) = true := by simp
              have e3 : (t == t) = true := by simp
              have e4 : (ok == ok) = true := by simp
              clear y1 y2 HR
              go_wp2
              go_ret
              exact ⟨rfl, _, (Act.quiet HP.out HO1.out).out (HO2.out.trans HO4.out), rfl⟩
            · exact AllReadyH.nil
          · exact AllReadyH.nil
        · refine AllReadyH.cons rfl (fun K hK => ?_) ?_
          · simp only [List.getElem_toArray, List.getElem_cons_zero, List.getElem_cons_succ]
            go_simp
            refine hK.out _ _ ?hS29 (fun hHeld2 => ?rest29)
            case hS29 => exact ⟨((Out.refl 0 0 W3).alloc (.cells #[.int .i64 0, .int .i64 0, .int .i64 0] 45)).cell y1 (.inr (Nat.zero_le _)), ((Out.refl 0 0 W3).alloc (.cells #[.int .i64 0, .int .i64 0, .int .i64 0] 45)).cell y2 (.inr (Nat.zero_le _))⟩
            clear hK K
            (try clear hHeld)
            have hHeld := hHeld2
            clear hHeld2
            (try simp only [Act.put, List.getElem_toArray, List.getElem_cons_zero, List.getElem_cons_succ, List.setIfInBounds_toArray, List.set_cons_zero, List.set_cons_succ])
            refine wpAnyH_ready (rs := [6]) (by kernel_rfl) (by simp) ?_
            refine AllReadyH.cons rfl (fun K hK => ?_) ?_
            · simp only [List.getElem_toArray, List.getElem_cons_zero, List.getElem_cons_succ]
              go_simp
              refine (HR.out _ ?hw30).mono ?_
              (case hw30 => exact (HO2.out.alloc (.cells #[.int .i64 0, .int .i64 0, .int .i64 0] 45)).drew)
              rintro e w4 ⟨rfl, hOO⟩
              have oW : Out 0 0 W3 w4 := (((Out.refl 0 0 W3).alloc (.cells #[.int .i64 0, .int .i64 0, .int .i64 0] 45)).drew).trans hOO
              have hbx : w4.heap[W3.heap.size]? = some (.cells #[.int .i64 0, .int .i64 0, .int .i64 0] 45 (0, 0)) := hOO.heap (heap_alloc_new W3 (.cells #[.int .i64 0, .int .i64 0, .int .i64 0] 45)) (.inr (Nat.zero_le _))
              obtain ⟨r0, r1, r2⟩ := box3 hbx
              have fr0 := frozen_at hbx 0
              have fr1 := frozen_at hbx 1
              have fr2 := frozen_at hbx 2
              go_wp2_with fail
              refine hK.out _ _ ?hS30 (fun hHeld2 => ?rest30)
              case hS30 => exact ⟨oW.cell y1 (.inr (Nat.zero_le _)), oW.cell y2 (.inr (Nat.zero_le _))⟩
              clear hK K
              (try clear hHeld)
              have hHeld := hHeld2
              clear hHeld2
              (try simp only [Act.put, List.getElem_toArray, List.getElem_cons_zero, List.getElem_cons_succ, List.setIfInBounds_toArray, List.set_cons_zero, List.set_cons_succ])
              refine wpAnyH_take (i := 7) (v := ?v31) rfl (by kernel_rfl) (by kernel_rfl) (by kernel_rfl) (fun _ _ _ h => h) (Or.inl ⟨by rfl, ?hy31⟩) (by assumption) ?rest31
              case hy31 => (intro w hSw; (try dsimp only at hSw); simp only [List.getElem_toArray, List.getElem_cons_zero, List.getElem_cons_succ]; go_simp; (try with_reducible rfl))
              (try simp only [Act.put, List.getElem_toArray, List.getElem_cons_zero, List.getElem_cons_succ, List.setIfInBounds_toArray, List.set_cons_zero, List.set_cons_succ])
              refine wpAnyH_take (i := 8) (v := ?v32) rfl (by kernel_rfl) (by kernel_rfl) (by kernel_rfl) (fun _ _ _ h => h) (Or.inl ⟨by rfl, ?hy32⟩) (by assumption) ?rest32
              case hy32 => (intro w hSw; (try dsimp only at hSw); simp only [List.getElem_toArray, List.getElem_cons_zero, List.getElem_cons_succ]; go_simp; (try with_reducible rfl))
              (try simp only [Act.put, List.getElem_toArray, List.getElem_cons_zero, List.getElem_cons_succ, List.setIfInBounds_toArray, List.set_cons_zero, List.set_cons_succ])
              refine wpAnyH_take (i := 9) (v := ?v33) rfl (by kernel_rfl) (by kernel_rfl) (by kernel_rfl) (fun _ _ _ h => h) (Or.inl ⟨by rfl, ?hy33⟩) (by assumption) ?rest33
              case hy33 => (intro w hSw; (try dsimp only at hSw); simp only [List.getElem_toArray, List.getElem_cons_zero, List.getElem_cons_succ]; go_simp; (try with_reducible rfl))
              (try simp only [Act.put, List.getElem_toArray, List.getElem_cons_zero, List.getElem_cons_succ, List.setIfInBounds_toArray, List.set_cons_zero, List.set_cons_succ])
              refine wpAnyH_ready (rs := [11]) (by kernel_rfl) (by simp) ?_
              refine AllReadyH.cons rfl (fun K hK => ?_) ?_
              · simp only [List.getElem_toArray, List.getElem_cons_zero, List.getElem_cons_succ]
                go_simp
                refine hK.out _ _ ?hS34 (fun hHeld2 => ?rest34)
                case hS34 => exact ⟨(oW.set3 (o := 0) (.inr (Nat.le_refl _)) _ _ _).cell y1 (.inr (Nat.zero_le _)), (oW.set3 (o := 0) (.inr (Nat.le_refl _)) _ _ _).cell y2 (.inr (Nat.zero_le _))⟩
                clear hK K
                (try clear hHeld)
                have hHeld := hHeld2
                clear hHeld2
                (try simp only [Act.put, List.getElem_toArray, List.getElem_cons_zero, List.getElem_cons_succ, List.setIfInBounds_toArray, List.set_cons_zero, List.set_cons_succ])
                refine wpAnyH_take (i := 12) (v := ?v35) rfl (by kernel_rfl) (by kernel_rfl) (by kernel_rfl) (fun _ _ _ h => h) (Or.inl ⟨by rfl, ?hy35⟩) (by assumption) ?rest35
                case hy35 => (intro w hSw; (try dsimp only at hSw); simp only [List.getElem_toArray, List.getElem_cons_zero, List.getElem_cons_succ]; go_simp; (try with_reducible rfl))
                (try simp only [Act.put, List.getElem_toArray, List.getElem_cons_zero, List.getElem_cons_succ, List.setIfInBounds_toArray, List.set_cons_zero, List.set_cons_succ])
                refine wpAnyH_done (by kernel_rfl) ?_ _
                have HO4 : Hid (Out 0 0 W3 (((w4.setCell ⟨W3.heap.size, 0, none⟩ (.int .i64 x)).setCell ⟨W3.heap.size, 1, none⟩ (.int .i64 y)).setCell ⟨W3.heap.size, 2, none⟩ (.int .i64 t))) := oW.set3 (o := 0) (.inr (Nat.le_refl _)) _ _ _
                have hbn : (((w4.setCell ⟨W3.heap.size, 0, none⟩ (.int .i64 x)).setCell ⟨W3.heap.size, 1, none⟩ (.int .i64 y)).setCell ⟨W3.heap.size, 2, none⟩ (.int .i64 t)).heap[W3.heap.size]? = some (.cells #[.int .i64 x, .int .i64 y, .int .i64 t] 45 (0, 0)) := set3_at hbx
                obtain ⟨Z, hZ⟩ : ∃ Y, W3.heap.size = Y := ⟨_, rfl⟩
                obtain ⟨W5, hW5⟩ : ∃ WN, ((w4.setCell ⟨W3.heap.size, 0, none⟩ (.int .i64 x)).setCell ⟨W3.heap.size, 1, none⟩ (.int .i64 y)).setCell ⟨W3.heap.size, 2, none⟩ (.int .i64 t) = WN := ⟨_, rfl⟩
                rw [hW5] at HO4 hbn ⊢
                rw [hZ] at hbn ⊢
                have HB4 := hid_mk hbn
                clear oW hOO hbn hW5 hZ hHeld hbx r0 r1 r2 fr0 fr1 fr2
                obtain ⟨p0, p1, p2⟩ := box3 (HO4.out.heap HB2.out (.inr (Nat.zero_le _)))
                obtain ⟨q0, q1, q2⟩ := box3 HB4.out
                have e1 : (x == x) = true := by simp
                have e2 : (y == y) = true := by simp
                have e3 : (t == t) = true := by simp
                have e4 : (ok == ok) = true := by simp
                clear y1 y2 HR
                go_wp2
                go_ret
                exact ⟨rfl, _, (Act.quiet HP.out HO1.out).out (HO2.out.trans HO4.out), rfl⟩
              · exact AllReadyH.nil
            · exact AllReadyH.nil
          · exact AllReadyH.nil
      · exact AllReadyH.nil
    · exact AllReadyH.nil
  · refine AllReadyH.cons rfl (fun K hK => ?_) ?_
    · simp only [List.getElem_toArray, List.getElem_cons_zero, List.getElem_cons_succ]
      go_simp
      refine hK.out _ _ ?hS36 (fun hHeld2 => ?rest36)
      case hS36 => exact ⟨((Out.refl 0 0 W1).alloc (.cells #[.int .i64 0, .int .i64 0, .int .i64 0] 45)).cell c0 (.inr (Nat.zero_le _)), ((Out.refl 0 0 W1).alloc (.cells #[.int .i64 0, .int .i64 0, .int .i64 0] 45)).cell x2 (.inr (Nat.zero_le _))⟩
      clear hK K
      (try clear hHeld)
      have hHeld := hHeld2
      clear hHeld2
      (try simp only [Act.put, List.getElem_toArray, List.getElem_cons_zero, List.getElem_cons_succ, List.setIfInBounds_toArray, List.set_cons_zero, List.set_cons_succ])
      refine wpAnyH_ready (rs := [6]) (by kernel_rfl) (by simp) ?_
      refine AllReadyH.cons rfl (fun K hK => ?_) ?_
      · simp only [List.getElem_toArray, List.getElem_cons_zero, List.getElem_cons_succ]
        go_simp
        refine (HC.out _ ?hw37).mono ?_
        (case hw37 => exact ((Out.refl 0 0 _).alloc (.cells #[.int .i64 0, .int .i64 0, .int .i64 0] 45)).drew)
        rintro e w2 ⟨rfl, hOO⟩
        have oW : Out 0 0 W1 w2 := (((Out.refl 0 0 W1).alloc (.cells #[.int .i64 0, .int .i64 0, .int .i64 0] 45)).drew).trans hOO
        have hbx : w2.heap[W1.heap.size]? = some (.cells #[.int .i64 0, .int .i64 0, .int .i64 0] 45 (0, 0)) := hOO.heap (heap_alloc_new W1 (.cells #[.int .i64 0, .int .i64 0, .int .i64 0] 45)) (.inr (Nat.zero_le _))
        obtain ⟨r0, r1, r2⟩ := box3 hbx
        have fr0 := frozen_at hbx 0
        have fr1 := frozen_at hbx 1
        have fr2 := frozen_at hbx 2
        go_wp2_with fail
        refine hK.out _ _ ?hS37 (fun hHeld2 => ?rest37)
        case hS37 => exact ⟨oW.cell c0 (.inr (Nat.zero_le _)), oW.cell x2 (.inr (Nat.zero_le _))⟩
        clear hK K
        (try clear hHeld)
        have hHeld := hHeld2
        clear hHeld2
        (try simp only [Act.put, List.getElem_toArray, List.getElem_cons_zero, List.getElem_cons_succ, List.setIfInBounds_toArray, List.set_cons_zero, List.set_cons_succ])
        refine wpAnyH_take (i := 7) (v := ?v38) rfl (by kernel_rfl) (by kernel_rfl) (by kernel_rfl) (fun _ _ _ h => h) (Or.inl ⟨by rfl, ?hy38⟩) (by assumption) ?rest38
        case hy38 => (intro w hSw; (try dsimp only at hSw); simp only [List.getElem_toArray, List.getElem_cons_zero, List.getElem_cons_succ]; go_simp; (try with_reducible rfl))
        (try simp only [Act.put, List.getElem_toArray, List.getElem_cons_zero, List.getElem_cons_succ, List.setIfInBounds_toArray, List.set_cons_zero, List.set_cons_succ])
        refine wpAnyH_take (i := 8) (v := ?v39) rfl (by kernel_rfl) (by kernel_rfl) (by kernel_rfl) (fun _ _ _ h => h) (Or.inl ⟨by rfl, ?hy39⟩) (by assumption) ?rest39
        case hy39 => (intro w hSw; (try dsimp only at hSw); simp only [List.getElem_toArray, List.getElem_cons_zero, List.getElem_cons_succ]; go_simp; (try with_reducible rfl))
        (try simp only [Act.put, List.getElem_toArray, List.getElem_cons_zero, List.getElem_cons_succ, List.setIfInBounds_toArray, List.set_cons_zero, List.set_cons_succ])
        refine wpAnyH_take (i := 9) (v := ?v40) rfl (by kernel_rfl) (by kernel_rfl) (by kernel_rfl) (fun _ _ _ h => h) (Or.inl ⟨by rfl, ?hy40⟩) (by assumption) ?rest40
        case hy40 => (intro w hSw; (try dsimp only at hSw); simp only [List.getElem_toArray, List.getElem_cons_zero, List.getElem_cons_succ]; go_simp; (try with_reducible rfl))
        (try simp only [Act.put, List.getElem_toArray, List.getElem_cons_zero, List.getElem_cons_succ, List.setIfInBounds_toArray, List.set_cons_zero, List.set_cons_succ])
        refine wpAnyH_ready (rs := [11]) (by kernel_rfl) (by simp) ?_
        refine AllReadyH.cons rfl (fun K hK => ?_) ?_
        · simp only [List.getElem_toArray, List.getElem_cons_zero, List.getElem_cons_succ]
          go_simp
          refine hK.out _ _ ?hS41 (fun hHeld2 => ?rest41)
          case hS41 => exact ⟨(oW.set3 (o := 0) (.inr (Nat.le_refl _)) _ _ _).cell c0 (.inr (Nat.zero_le _)), (oW.set3 (o := 0) (.inr (Nat.le_refl _)) _ _ _).cell x2 (.inr (Nat.zero_le _))⟩
          clear hK K
          (try clear hHeld)
          have hHeld := hHeld2
          clear hHeld2
          (try simp only [Act.put, List.getElem_toArray, List.getElem_cons_zero, List.getElem_cons_succ, List.setIfInBounds_toArray, List.set_cons_zero, List.set_cons_succ])
          refine wpAnyH_take (i := 12) (v := ?v42) rfl (by kernel_rfl) (by kernel_rfl) (by kernel_rfl) (fun _ _ _ h => h) (Or.inl ⟨by rfl, ?hy42⟩) (by assumption) ?rest42
          case hy42 => (intro w hSw; (try dsimp only at hSw); simp only [List.getElem_toArray, List.getElem_cons_zero, List.getElem_cons_succ]; go_simp; (try with_reducible rfl))
          (try simp only [Act.put, List.getElem_toArray, List.getElem_cons_zero, List.getElem_cons_succ, List.setIfInBounds_toArray, List.set_cons_zero, List.set_cons_succ])
          refine wpAnyH_done (by kernel_rfl) ?_ _
          have HO2 : Hid (Out 0 0 W1 (((w2.setCell ⟨W1.heap.size, 0, none⟩ (.int .i64 x)).setCell ⟨W1.heap.size, 1, none⟩ (.int .i64 y)).setCell ⟨W1.heap.size, 2, none⟩ (.int .i64 t))) := oW.set3 (o := 0) (.inr (Nat.le_refl _)) _ _ _
          have hbn : (((w2.setCell ⟨W1.heap.size, 0, none⟩ (.int .i64 x)).setCell ⟨W1.heap.size, 1, none⟩ (.int .i64 y)).setCell ⟨W1.heap.size, 2, none⟩ (.int .i64 t)).heap[W1.heap.size]? = some (.cells #[.int .i64 x, .int .i64 y, .int .i64 t] 45 (0, 0)) := set3_at hbx
          obtain ⟨Y, hY⟩ : ∃ Y, W1.heap.size = Y := ⟨_, rfl⟩
          obtain ⟨W3, hW3⟩ : ∃ WN, ((w2.setCell ⟨W1.heap.size, 0, none⟩ (.int .i64 x)).setCell ⟨W1.heap.size, 1, none⟩ (.int .i64 y)).setCell ⟨W1.heap.size, 2, none⟩ (.int .i64 t) = WN := ⟨_, rfl⟩
          rw [hW3] at HO2 hbn ⊢
          rw [hY] at hbn ⊢
          have HB2 := hid_mk hbn
          clear oW hOO hbn hW3 hY hHeld hbx r0 r1 r2 fr0 fr1 fr2
          have y2 := HO2.out.cell x2 (.inr (Nat.zero_le _))
          have y1 := HO2.out.cell c1 (.inr (Nat.zero_le _))
          clear c0 c1 x0 x1 x2 HC
          go_wp2_with fail
          refine wp_region_held_drew (S := fun w' => w'.cell? ⟨d.b, 1, none⟩ = some (.pointer (some ⟨d.br, 0, none⟩)) ∧ w'.cell? ⟨X, 2, none⟩ = some (.int .i64 a)) (by kernel_rfl) ?hS43 (fun hHeld => ?rest43)
          case hS43 => exact ⟨y1, y2⟩
          refine wpAnyH_take (i := 0) (v := ?v44) rfl (by kernel_rfl) (by kernel_rfl) (by kernel_rfl) (fun _ _ _ h => h) (Or.inl ⟨by rfl, ?hy44⟩) (by assumption) ?rest44
          case hy44 => (intro w hSw; (try dsimp only at hSw); simp only [List.getElem_toArray, List.getElem_cons_zero, List.getElem_cons_succ]; go_simp; (try with_reducible rfl))
          (try simp only [Act.put, List.getElem_toArray, List.getElem_cons_zero, List.getElem_cons_succ, List.setIfInBounds_toArray, List.set_cons_zero, List.set_cons_succ])
          refine wpAnyH_take (i := 1) (v := ?v45) rfl (by kernel_rfl) (by kernel_rfl) (by kernel_rfl) (fun _ _ _ h => h) (Or.inl ⟨by rfl, ?hy45⟩) (by assumption) ?rest45
          case hy45 => (intro w hSw; (try dsimp only at hSw); simp only [List.getElem_toArray, List.getElem_cons_zero, List.getElem_cons_succ]; go_simp; (try with_reducible rfl))
          (try simp only [Act.put, List.getElem_toArray, List.getElem_cons_zero, List.getElem_cons_succ, List.setIfInBounds_toArray, List.set_cons_zero, List.set_cons_succ])
          refine wpAnyH_take (i := 2) (v := ?v46) rfl (by kernel_rfl) (by kernel_rfl) (by kernel_rfl) (fun _ _ _ h => h) (Or.inl ⟨by rfl, ?hy46⟩) (by assumption) ?rest46
          case hy46 => (intro w hSw; (try dsimp only at hSw); simp only [List.getElem_toArray, List.getElem_cons_zero, List.getElem_cons_succ]; go_simp; (try with_reducible rfl))
          (try simp only [Act.put, List.getElem_toArray, List.getElem_cons_zero, List.getElem_cons_succ, List.setIfInBounds_toArray, List.set_cons_zero, List.set_cons_succ])
          refine wpAnyH_take (i := 3) (v := ?v47) rfl (by kernel_rfl) (by kernel_rfl) (by kernel_rfl) (fun _ _ _ h => h) (Or.inl ⟨by rfl, ?hy47⟩) (by assumption) ?rest47
          case hy47 => (intro w hSw; (try dsimp only at hSw); simp only [List.getElem_toArray, List.getElem_cons_zero, List.getElem_cons_succ]; go_simp; (try with_reducible rfl))
          (try simp only [Act.put, List.getElem_toArray, List.getElem_cons_zero, List.getElem_cons_succ, List.setIfInBounds_toArray, List.set_cons_zero, List.set_cons_succ])
          refine wpAnyH_take (i := 4) (v := ?v48) rfl (by kernel_rfl) (by kernel_rfl) (by kernel_rfl) (fun _ _ _ h => h) (Or.inl ⟨by rfl, ?hy48⟩) (by assumption) ?rest48
          case hy48 => (intro w hSw; (try dsimp only at hSw); simp only [List.getElem_toArray, List.getElem_cons_zero, List.getElem_cons_succ]; go_simp; (try with_reducible rfl))
          (try simp only [Act.put, List.getElem_toArray, List.getElem_cons_zero, List.getElem_cons_succ, List.setIfInBounds_toArray, List.set_cons_zero, List.set_cons_succ])
          refine wpAnyH_take (i := 5) (v := ?v49) rfl (by kernel_rfl) (by kernel_rfl) (by kernel_rfl) (fun _ _ _ h => h) (Or.inl ⟨by rfl, ?hy49⟩) (by assumption) ?rest49
          case hy49 => (intro w hSw; (try dsimp only at hSw); simp only [List.getElem_toArray, List.getElem_cons_zero, List.getElem_cons_succ]; go_simp; (try with_reducible rfl))
          (try simp only [Act.put, List.getElem_toArray, List.getElem_cons_zero, List.getElem_cons_succ, List.setIfInBounds_toArray, List.set_cons_zero, List.set_cons_succ])
          refine wpAnyH_ready (rs := [6, 10]) (by kernel_rfl) (by simp) ?_
          refine AllReadyH.cons rfl (fun K hK => ?_) ?_
          · simp only [List.getElem_toArray, List.getElem_cons_zero, List.getElem_cons_succ]
            go_simp
            refine (HR.out _ ?hw50).mono ?_
            (case hw50 => exact HO2.out.drew)
            rintro e w4 ⟨rfl, hOO⟩
            have oW : Out 0 0 W3 w4 := ((Out.refl 0 0 W3).drew).trans hOO
            go_wp2_with fail
            refine hK.out _ _ ?hS50 (fun hHeld2 => ?rest50)
            case hS50 => exact ⟨oW.cell y1 (.inr (Nat.zero_le _)), oW.cell y2 (.inr (Nat.zero_le _))⟩
            clear hK K
            (try clear hHeld)
            have hHeld := hHeld2
            clear hHeld2
            (try simp only [Act.put, List.getElem_toArray, List.getElem_cons_zero, List.getElem_cons_succ, List.setIfInBounds_toArray, List.set_cons_zero, List.set_cons_succ])
            refine wpAnyH_take (i := 7) (v := ?v51) rfl (by kernel_rfl) (by kernel_rfl) (by kernel_rfl) (fun _ _ _ h => h) (Or.inl ⟨by rfl, ?hy51⟩) (by assumption) ?rest51
            case hy51 => (intro w hSw; (try dsimp only at hSw); simp only [List.getElem_toArray, List.getElem_cons_zero, List.getElem_cons_succ]; go_simp; (try with_reducible rfl))
            (try simp only [Act.put, List.getElem_toArray, List.getElem_cons_zero, List.getElem_cons_succ, List.setIfInBounds_toArray, List.set_cons_zero, List.set_cons_succ])
            refine wpAnyH_take (i := 8) (v := ?v52) rfl (by kernel_rfl) (by kernel_rfl) (by kernel_rfl) (fun _ _ _ h => h) (Or.inl ⟨by rfl, ?hy52⟩) (by assumption) ?rest52
            case hy52 => (intro w hSw; (try dsimp only at hSw); simp only [List.getElem_toArray, List.getElem_cons_zero, List.getElem_cons_succ]; go_simp; (try with_reducible rfl))
            (try simp only [Act.put, List.getElem_toArray, List.getElem_cons_zero, List.getElem_cons_succ, List.setIfInBounds_toArray, List.set_cons_zero, List.set_cons_succ])
            refine wpAnyH_take (i := 9) (v := ?v53) rfl (by kernel_rfl) (by kernel_rfl) (by kernel_rfl) (fun _ _ _ h => h) (Or.inl ⟨by rfl, ?hy53⟩) (by assumption) ?rest53
            case hy53 => (intro w hSw; (try dsimp only at hSw); simp only [List.getElem_toArray, List.getElem_cons_zero, List.getElem_cons_succ]; go_simp; (try with_reducible rfl))
            (try simp only [Act.put, List.getElem_toArray, List.getElem_cons_zero, List.getElem_cons_succ, List.setIfInBounds_toArray, List.set_cons_zero, List.set_cons_succ])
            refine wpAnyH_ready (rs := [10]) (by kernel_rfl) (by simp) ?_
            refine AllReadyH.cons rfl (fun K hK => ?_) ?_
            · simp only [List.getElem_toArray, List.getElem_cons_zero, List.getElem_cons_succ]
              go_simp
              refine hK.out _ _ ?hS54 (fun hHeld2 => ?rest54)
              case hS54 => exact ⟨(oW.alloc _).cell y1 (.inr (Nat.zero_le _)), (oW.alloc _).cell y2 (.inr (Nat.zero_le _))⟩
              clear hK K
              (try clear hHeld)
              have hHeld := hHeld2
              clear hHeld2
              (try simp only [Act.put, List.getElem_toArray, List.getElem_cons_zero, List.getElem_cons_succ, List.setIfInBounds_toArray, List.set_cons_zero, List.set_cons_succ])
              refine wpAnyH_ready (rs := [11]) (by kernel_rfl) (by simp) ?_
              refine AllReadyH.cons rfl (fun K hK => ?_) ?_
              · simp only [List.getElem_toArray, List.getElem_cons_zero, List.getElem_cons_succ]
                go_simp
                refine hK.out _ _ ?hS55 (fun hHeld2 => ?rest55)
                case hS55 => exact ⟨(oW.alloc _).cell y1 (.inr (Nat.zero_le _)), (oW.alloc _).cell y2 (.inr (Nat.zero_le _))⟩
                clear hK K
                (try clear hHeld)
                have hHeld := hHeld2
                clear hHeld2
                (try simp only [Act.put, List.getElem_toArray, List.getElem_cons_zero, List.getElem_cons_succ, List.setIfInBounds_toArray, List.set_cons_zero, List.set_cons_succ])
                refine wpAnyH_take (i := 12) (v := ?v56) rfl (by kernel_rfl) (by kernel_rfl) (by kernel_rfl) (fun _ _ _ h => h) (Or.inl ⟨by rfl, ?hy56⟩) (by assumption) ?rest56
                case hy56 => (intro w hSw; (try dsimp only at hSw); simp only [List.getElem_toArray, List.getElem_cons_zero, List.getElem_cons_succ]; go_simp; (try with_reducible rfl))
                (try simp only [Act.put, List.getElem_toArray, List.getElem_cons_zero, List.getElem_cons_succ, List.setIfInBounds_toArray, List.set_cons_zero, List.set_cons_succ])
                refine wpAnyH_done (by kernel_rfl) ?_ _
                have HO4 : Hid (Out 0 0 W3 (w4.alloc (.cells #[.int .i64 x, .int .i64 y, .int .i64 t] 45))) := oW.alloc _
                have hbn : (w4.alloc (.cells #[.int .i64 x, .int .i64 y, .int .i64 t] 45)).heap[w4.heap.size]? = some (.cells #[.int .i64 x, .int .i64 y, .int .i64 t] 45 (0, 0)) := heap_alloc_new w4 (.cells #[.int .i64 x, .int .i64 y, .int .i64 t] 45)
                obtain ⟨Z, hZ⟩ : ∃ Y, w4.heap.size = Y := ⟨_, rfl⟩
                obtain ⟨W5, hW5⟩ : ∃ WN, w4.alloc (.cells #[.int .i64 x, .int .i64 y, .int .i64 t] 45) = WN := ⟨_, rfl⟩
                rw [hW5] at HO4 hbn ⊢
                rw [hZ] at hbn ⊢
                have HB4 := hid_mk hbn
                clear oW hOO hbn hW5 hZ hHeld
                obtain ⟨p0, p1, p2⟩ := box3 (HO4.out.heap HB2.out (.inr (Nat.zero_le _)))
                obtain ⟨q0, q1, q2⟩ := box3 HB4.out
                have e1 : (x == x) = true := by simp
                have e2 : (y == y) = true := by simp
                have e3 : (t == t) = true := by simp
                have e4 : (ok == ok) = true := by simp
                clear y1 y2 HR
                go_wp2
                go_ret
                exact ⟨rfl, _, (Act.quiet HP.out HO1.out).out (HO2.out.trans HO4.out), rfl⟩
              · exact AllReadyH.nil
            · exact AllReadyH.nil
          · refine AllReadyH.cons rfl (fun K hK => ?_) ?_
            · simp only [List.getElem_toArray, List.getElem_cons_zero, List.getElem_cons_succ]
              go_simp
              refine hK.out _ _ ?hS57 (fun hHeld2 => ?rest57)
              case hS57 => exact ⟨((Out.refl 0 0 W3).alloc (.cells #[.int .i64 0, .int .i64 0, .int .i64 0] 45)).cell y1 (.inr (Nat.zero_le _)), ((Out.refl 0 0 W3).alloc (.cells #[.int .i64 0, .int .i64 0, .int .i64 0] 45)).cell y2 (.inr (Nat.zero_le _))⟩
              clear hK K
              (try clear hHeld)
              have hHeld := hHeld2
              clear hHeld2
              (try simp only [Act.put, List.getElem_toArray, List.getElem_cons_zero, List.getElem_cons_succ, List.setIfInBounds_toArray, List.set_cons_zero, List.set_cons_succ])
              refine wpAnyH_ready (rs := [6]) (by kernel_rfl) (by simp) ?_
              refine AllReadyH.cons rfl (fun K hK => ?_) ?_
              · simp only [List.getElem_toArray, List.getElem_cons_zero, List.getElem_cons_succ]
                go_simp
                refine (HR.out _ ?hw58).mono ?_
                (case hw58 => exact (HO2.out.alloc (.cells #[.int .i64 0, .int .i64 0, .int .i64 0] 45)).drew)
                rintro e w4 ⟨rfl, hOO⟩
                have oW : Out 0 0 W3 w4 := (((Out.refl 0 0 W3).alloc (.cells #[.int .i64 0, .int .i64 0, .int .i64 0] 45)).drew).trans hOO
                have hbx : w4.heap[W3.heap.size]? = some (.cells #[.int .i64 0, .int .i64 0, .int .i64 0] 45 (0, 0)) := hOO.heap (heap_alloc_new W3 (.cells #[.int .i64 0, .int .i64 0, .int .i64 0] 45)) (.inr (Nat.zero_le _))
                obtain ⟨r0, r1, r2⟩ := box3 hbx
                have fr0 := frozen_at hbx 0
                have fr1 := frozen_at hbx 1
                have fr2 := frozen_at hbx 2
                go_wp2_with fail
                refine hK.out _ _ ?hS58 (fun hHeld2 => ?rest58)
                case hS58 => exact ⟨oW.cell y1 (.inr (Nat.zero_le _)), oW.cell y2 (.inr (Nat.zero_le _))⟩
                clear hK K
                (try clear hHeld)
                have hHeld := hHeld2
                clear hHeld2
                (try simp only [Act.put, List.getElem_toArray, List.getElem_cons_zero, List.getElem_cons_succ, List.setIfInBounds_toArray, List.set_cons_zero, List.set_cons_succ])
                refine wpAnyH_take (i := 7) (v := ?v59) rfl (by kernel_rfl) (by kernel_rfl) (by kernel_rfl) (fun _ _ _ h => h) (Or.inl ⟨by rfl, ?hy59⟩) (by assumption) ?rest59
                case hy59 => (intro w hSw; (try dsimp only at hSw); simp only [List.getElem_toArray, List.getElem_cons_zero, List.getElem_cons_succ]; go_simp; (try with_reducible rfl))
                (try simp only [Act.put, List.getElem_toArray, List.getElem_cons_zero, List.getElem_cons_succ, List.setIfInBounds_toArray, List.set_cons_zero, List.set_cons_succ])
                refine wpAnyH_take (i := 8) (v := ?v60) rfl (by kernel_rfl) (by kernel_rfl) (by kernel_rfl) (fun _ _ _ h => h) (Or.inl ⟨by rfl, ?hy60⟩) (by assumption) ?rest60
                case hy60 => (intro w hSw; (try dsimp only at hSw); simp only [List.getElem_toArray, List.getElem_cons_zero, List.getElem_cons_succ]; go_simp; (try with_reducible rfl))
                (try simp only [Act.put, List.getElem_toArray, List.getElem_cons_zero, List.getElem_cons_succ, List.setIfInBounds_toArray, List.set_cons_zero, List.set_cons_succ])
                refine wpAnyH_take (i := 9) (v := ?v61) rfl (by kernel_rfl) (by kernel_rfl) (by kernel_rfl) (fun _ _ _ h => h) (Or.inl ⟨by rfl, ?hy61⟩) (by assumption) ?rest61
                case hy61 => (intro w hSw; (try dsimp only at hSw); simp only [List.getElem_toArray, List.getElem_cons_zero, List.getElem_cons_succ]; go_simp; (try with_reducible rfl))
                (try simp only [Act.put, List.getElem_toArray, List.getElem_cons_zero, List.getElem_cons_succ, List.setIfInBounds_toArray, List.set_cons_zero, List.set_cons_succ])
                refine wpAnyH_ready (rs := [11]) (by kernel_rfl) (by simp) ?_
                refine AllReadyH.cons rfl (fun K hK => ?_) ?_
                · simp only [List.getElem_toArray, List.getElem_cons_zero, List.getElem_cons_succ]
                  go_simp
                  refine hK.out _ _ ?hS62 (fun hHeld2 => ?rest62)
                  case hS62 => exact ⟨(oW.set3 (o := 0) (.inr (Nat.le_refl _)) _ _ _).cell y1 (.inr (Nat.zero_le _)), (oW.set3 (o := 0) (.inr (Nat.le_refl _)) _ _ _).cell y2 (.inr (Nat.zero_le _))⟩
                  clear hK K
                  (try clear hHeld)
                  have hHeld := hHeld2
                  clear hHeld2
                  (try simp only [Act.put, List.getElem_toArray, List.getElem_cons_zero, List.getElem_cons_succ, List.setIfInBounds_toArray, List.set_cons_zero, List.set_cons_succ])
                  refine wpAnyH_take (i := 12) (v := ?v63) rfl (by kernel_rfl) (by kernel_rfl) (by kernel_rfl) (fun _ _ _ h => h) (Or.inl ⟨by rfl, ?hy63⟩) (by assumption) ?rest63
                  case hy63 => (intro w hSw; (try dsimp only at hSw); simp only [List.getElem_toArray, List.getElem_cons_zero, List.getElem_cons_succ]; go_simp; (try with_reducible rfl))
                  (try simp only [Act.put, List.getElem_toArray, List.getElem_cons_zero, List.getElem_cons_succ, List.setIfInBounds_toArray, List.set_cons_zero, List.set_cons_succ])
                  refine wpAnyH_done (by kernel_rfl) ?_ _
                  have HO4 : Hid (Out 0 0 W3 (((w4.setCell ⟨W3.heap.size, 0, none⟩ (.int .i64 x)).setCell ⟨W3.heap.size, 1, none⟩ (.int .i64 y)).setCell ⟨W3.heap.size, 2, none⟩ (.int .i64 t))) := oW.set3 (o := 0) (.inr (Nat.le_refl _)) _ _ _
                  have hbn : (((w4.setCell ⟨W3.heap.size, 0, none⟩ (.int .i64 x)).setCell ⟨W3.heap.size, 1, none⟩ (.int .i64 y)).setCell ⟨W3.heap.size, 2, none⟩ (.int .i64 t)).heap[W3.heap.size]? = some (.cells #[.int .i64 x, .int .i64 y, .int .i64 t] 45 (0, 0)) := set3_at hbx
                  obtain ⟨Z, hZ⟩ : ∃ Y, W3.heap.size = Y := ⟨_, rfl⟩
                  obtain ⟨W5, hW5⟩ : ∃ WN, ((w4.setCell ⟨W3.heap.size, 0, none⟩ (.int .i64 x)).setCell ⟨W3.heap.size, 1, none⟩ (.int .i64 y)).setCell ⟨W3.heap.size, 2, none⟩ (.int .i64 t) = WN := ⟨_, rfl⟩
                  rw [hW5] at HO4 hbn ⊢
                  rw [hZ] at hbn ⊢
                  have HB4 := hid_mk hbn
                  clear oW hOO hbn hW5 hZ hHeld hbx r0 r1 r2 fr0 fr1 fr2
                  obtain ⟨p0, p1, p2⟩ := box3 (HO4.out.heap HB2.out (.inr (Nat.zero_le _)))
                  obtain ⟨q0, q1, q2⟩ := box3 HB4.out
                  have e1 : (x == x) = true := by simp
                  have e2 : (y == y) = true := by simp
                  have e3 : (t == t) = true := by simp
                  have e4 : (ok == ok) = true := by simp
                  clear y1 y2 HR
                  go_wp2
                  go_ret
                  exact ⟨rfl, _, (Act.quiet HP.out HO1.out).out (HO2.out.trans HO4.out), rfl⟩
                · exact AllReadyH.nil
              · exact AllReadyH.nil
            · exact AllReadyH.nil
        · exact AllReadyH.nil
      · exact AllReadyH.nil
    · exact AllReadyH.nil
set_option maxRecDepth 100000 in
set_option maxHeartbeats 4000000 in
theorem looked_11 {B : Nat} {w : World} {d : Desc} (h : PairK B w d) (hT : Tab w) (z a : Int) :
    Calls Tryd.prog 11 #[.pointer (some ⟨d.b, 0, none⟩), .agg #[.int .i64 z, .int .i64 11, .int .i64 a]] w fun e w' => e = .returned (.bool true) ∧ ∃ d', Act B w w' d d' ∧ d'.u = d.u := by
  have HP := hid_mk h
  have o1 : Out 0 0 w (w.alloc (.cells #[.int .i64 z, .int .i64 11, .int .i64 a] 28)) := (Out.refl _ _ _).alloc _
  have hx := heap_alloc_new w (.cells #[.int .i64 z, .int .i64 11, .int .i64 a] 28)
  obtain ⟨X, hX⟩ : ∃ X, w.heap.size = X := ⟨_, rfl⟩
  obtain ⟨W1, hW⟩ : ∃ W1, w.alloc (.cells #[.int .i64 z, .int .i64 11, .int .i64 a] 28) = W1 := ⟨_, rfl⟩
  rw [hW] at o1 hx
  rw [hX] at hx
  have HO1 := hid_mk o1
  have HP1 := hid_mk (h.quiet o1)
  have HT1 := hid_mk (hT.quiet o1)
  obtain ⟨x0, x1, x2⟩ := op_cells hx
  obtain ⟨c0, c1⟩ := HP1.out.cells
  obtain ⟨F, hF⟩ : ∃ F : Int, ((cntF d.S d.n : Nat) : Int) = F := ⟨_, rfl⟩
  have HF : Hid (∀ w', Out 0 0 W1 w' → Calls Tryd.prog 18 #[.pointer (some ⟨d.bt, 0, none⟩)] w' fun e w'' => e = .returned (.int .i64 F) ∧ Out 0 0 w' w'') := fun w' o => by have := free_any (HP1.out.quiet o).2.2.1 (HT1.out.quiet o); rw [hF] at this; exact this
  have HR : Hid (∀ w', Out 0 0 W1 w' → Calls Tryd.prog 27 #[.pointer (some ⟨d.br, 0, none⟩)] w' fun e w'' => e = .returned (.int .i64 F) ∧ w'' = w') := fun w' o => by have := refFree_any (HP1.out.quiet o).2.2.2.1; rw [hF] at this; exact this
  obtain ⟨n, hn⟩ : ∃ n, d.n = n := ⟨_, rfl⟩
  have HLn : Hid (∀ w', Out 0 0 W1 w' → Calls Tryd.prog 28 #[.pointer (some ⟨d.bt, 0, none⟩)] w' fun e w'' => e = .returned (.int .i64 (n : Int)) ∧ w'' = w') := fun w' o => by
    obtain ⟨cap, c, _⟩ := (HP1.out.quiet o).2.2.1.cell
    rw [hn] at c
    exact len_cell c
  obtain ⟨cap, c2, _⟩ := HP1.out.2.2.2.1.cell
  rw [hn] at c2
  have e1 : (F == F) = true := by simp
  have e2 : ((n : Int) == (n : Int)) = true := by simp
  clear h hT o1 hx hF hn
  go_enter Tryd.func11, Tryd.ntmps11
  go_wp2_with fail
  go_region_held3 (fun w' => w'.cell? ⟨d.b, 0, none⟩ = some (.pointer (some ⟨d.bt, 0, none⟩)) ∧ w'.cell? ⟨d.b, 1, none⟩ = some (.pointer (some ⟨d.br, 0, none⟩)) ∧ w'.cell? ⟨d.br, 0, none⟩ = some (.slice (some ⟨d.bwr, 0, none⟩) n cap)) (first | go_keep | (refine ⟨?_, ?_, ?_⟩ <;> exact hOO.cell (by assumption) (.inr (Nat.zero_le _))))
    (first | (go_at_call 18; refine (HF.out _ (by exact (Out.refl 0 0 _).drew)).mono ?_; rintro e w2 ⟨rfl, hOO⟩) | (go_at_call 27; refine calls_same (HR.out _ (by exact (Out.refl 0 0 _).drew.trans hOO)) ?_) | (go_at_call 28; refine calls_same (HLn.out _ (by exact (Out.refl 0 0 _).drew.trans hOO)) ?_))
  all_goals (try go_wp2)
  all_goals go_ret
  all_goals exact ⟨rfl, _, (Act.quiet HP.out HO1.out).out ((Out.refl 0 0 _).drew.trans hOO), rfl⟩
end Go.Proofs.YtfkmaanfgkkjcaaDoor
