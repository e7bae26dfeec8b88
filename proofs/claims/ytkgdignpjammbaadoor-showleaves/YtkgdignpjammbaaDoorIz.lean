/- ShowLeaves -/
import Derived.Test.YtkgdignpjammbaaDoorIy
namespace Go.Proofs.YtkgdignpjammbaaDoor
open Go.RowKit
set_option linter.unusedVariables false
set_option linter.unusedSimpArgs false

theorem new2 (w : World) (o1 o3 : Obj) (cs : Array Value) (T : TypeId) : Bl (((w.alloc o1).alloc (.cells cs T)).alloc o3) (w.heap.size + 1) cs T := (size_alloc w o1 ▸ Bl.new (w.alloc o1) cs T : Bl _ _ _ _).alloc _
theorem new3 (w : World) (o1 o2 : Obj) (cs : Array Value) (T : TypeId) : Bl (((w.alloc o1).alloc o2).alloc (.cells cs T)) (w.heap.size + 1 + 1) cs T := by
  have := Bl.new ((w.alloc o1).alloc o2) cs T
  simpa only [size_alloc] using this
set_option maxRecDepth 100000 in
set_option maxHeartbeats 4000000 in
theorem leaves_other {W : World} {k a b : Int} (ht : Tp W) (h7 : k ≠ 7) (h8 : k ≠ 8) (h9 : k ≠ 9) (h10 : k ≠ 10) (h11 : k ≠ 11) :
    Calls Tryd.prog 6 #[.int .i64 k, .int .i64 a, .int .i64 b] W fun e w' => e = .returned (.bool true) ∧ Out 0 0 W w' := by
  have HA := hid_mk (alive_any ht)
  have k7 : (k == 7) = false := by simpa using h7
  have k8 : (k == 8) = false := by simpa using h8
  have k9 : (k == 9) = false := by simpa using h9
  have k10 : (k == 10) = false := by simpa using h10
  have k11 : (k == 11) = false := by simpa using h11
  clear ht h7 h8 h9 h10 h11
  go_enter Tryd.func6, Tryd.ntmps6
  go_wp2_with (go_at_call 7; refine HA.out.mono ?_; rintro e w1 ⟨rfl, o1⟩)
  go_ret
  exact ⟨rfl, o1⟩
set_option maxRecDepth 100000 in
set_option maxHeartbeats 8000000 in
theorem leaves_7 {W : World} {a b : Int} (ht : Tp W) :
    Calls Tryd.prog 6 #[.int .i64 7, .int .i64 a, .int .i64 b] W fun e w' => e = .returned (.bool true) ∧ Out 0 0 W w' := by
  have HA := hid_mk (alive_any ht)
  have HG := hid_mk (fun (W1 : World) (L c : Nat) (a1 a2 a3 : Option Addr) (l1 l2 l3 c1 c2 c3 : Nat) (hL : Bl W1 L #[.int .i64 5, .int .i64 7, .slice a1 l1 c1, .slice a2 l2 c2, .slice a3 l3 c3] 42) => graph_leaf (c := c) (s := ⟨#[35, 60, 99, 111, 110, 116, 105, 110, 117, 97, 116, 105, 111, 110, 62]⟩) (by decide) (by decide) hL)
  clear ht
  go_enter Tryd.func6, Tryd.ntmps6
  go_wp2_with (first
    | (go_at_call 7; refine HA.out.mono ?_; rintro e w1 ⟨rfl, o1⟩)
    | (go_at_call 12; refine (ref_any _ _).mono ?_; rintro e w2 ⟨rfl, o2⟩)
    | (go_at_call 9; refine (fix_any _ _).mono ?_; rintro e w3 ⟨rfl, o3⟩))
  rename_i u1 p1 u2 p2 K hK
  refine wp_named (fun W0 hW0 => ?_)
  obtain ⟨x1, kL⟩ : ∃ x1 : Addr, Bl W0 (w3.heap.size + 1) #[.int .i64 5, .int .i64 7, .slice (some ⟨w1.heap.size, 0, none⟩) 2 2, .slice (some x1) 2 2, .slice (some ⟨w3.heap.size, 0, none⟩) 1 1] 42 := by
    refine ⟨⟨u2.heap.size, 0, none⟩, ?_⟩
    rw [hW0]
    exact new2 _ _ _ _ _
  have kG : Bl W0 (w3.heap.size + 1 + 1) #[.slice (some ⟨w3.heap.size + 1, 0, none⟩) 1 1, .slice none 0 0] 31 := by
    rw [hW0]
    exact new3 _ _ _ _ _
  have o0 : Out 0 0 W W0 := by
    rw [hW0]
    exact (((((((o1.alloc _).trans p1).trans p2).alloc _).trans o2).trans o3).alloc _).alloc _ |>.alloc _
  obtain ⟨L, hL⟩ : ∃ l, w3.heap.size + 1 = l := ⟨_, rfl⟩
  obtain ⟨G, hG⟩ : ∃ g, L + 1 = g := ⟨_, rfl⟩
  rw [hL, hG] at kG
  rw [hL] at kL
  rw [hL, hG]
  have g0 := kG.cell (i := 0) rfl
  have g1 := kG.cell (i := 1) rfl
  have hGl := kG.lt
  have hLl := kL.lt
  have HO0 := hid_mk o0
  clear hL hG hW0 o0 kG o1 o2 o3 p1 p2
  apply cut1 (K := K) (F := fun g11 V => Bl V g11 #[.int .i64 0, .int .i64 0] 25 ∧ Out 0 0 W0 V)
  case h1 =>
    intro HC
    obtain ⟨lim16, hlm16⟩ : ∃ l, W0.heap.size = l := ⟨_, rfl⟩
    refine wp_region_held_drew (S := fun w' => w'.cell? ⟨G, 0, none⟩ = some (.slice (some ⟨L, 0, none⟩) 1 1) ∧ w'.cell? ⟨G, 1, none⟩ = some (.slice none 0 0)) (by kernel_rfl) ?hS1 (fun hHeld => ?rest1)
    case hS1 => exact ⟨g0, g1⟩
    obtain ⟨Z16, hZ⟩ : ∃ Z, W0.drew = Z := ⟨_, rfl⟩
    have oZ : Out 0 0 W0 Z16 := by rw [← hZ]; exact (Out.refl 0 0 _).drew
    have oo := oZ
    rw [hZ] at hHeld ⊢
    replace kL := kL.kept oZ (.inr (Nat.zero_le _))
    clear hZ oZ
    refine tk 0 ?_
    refine wpAnyH_ready (rs := [1, 6]) (by kernel_rfl) (by simp) ?_
    refine AllReadyH.cons rfl (fun KK hK => ?_) ?_
    · simp only [xa, xb, xc]
      go_simp
      refine (ref_any 5 _).mono ?_
      rintro e Z16_1 ⟨rfl, q1⟩
      replace kL := kL.kept q1 (.inr (Nat.zero_le _))
      replace oo := oo.trans q1
      refine hK.out _ _ ?hS3 (fun hHeld2 => ?rest3)
      case hS3 => exact ⟨q1.cell hHeld.1 (.inr (Nat.zero_le _)), q1.cell hHeld.2 (.inr (Nat.zero_le _))⟩
      clear q1
      clear hK KK
      (try clear hHeld)
      have hHeld := hHeld2
      clear hHeld2
      (try simp only [Act.put, xa, xb, xc, xd, xe, xf])
      refine wpAnyH_ready (rs := [2, 6]) (by kernel_rfl) (by simp) ?_
      refine AllReadyH.cons rfl (fun KK hK => ?_) ?_
      · simp only [xa, xb, xc]
        go_simp
        refine (HG.out _ L 1 _ _ _ _ _ _ _ _ _ kL).mono ?_
        rintro e Z16_1_2 ⟨rfl, q1⟩
        replace kL := kL.kept q1 (.inr (Nat.zero_le _))
        replace oo := oo.trans q1
        refine hK.out _ _ ?hS4 (fun hHeld2 => ?rest4)
        case hS4 => exact ⟨q1.cell hHeld.1 (.inr (Nat.zero_le _)), q1.cell hHeld.2 (.inr (Nat.zero_le _))⟩
        clear q1
        clear hK KK
        (try clear hHeld)
        have hHeld := hHeld2
        clear hHeld2
        (try simp only [Act.put, xa, xb, xc, xd, xe, xf])
        refine tk 3 ?_
        refine tk 4 ?_
        refine tk 5 ?_
        refine wpAnyH_ready (rs := [6]) (by kernel_rfl) (by simp) ?_
        refine AllReadyH.cons rfl (fun KK hK => ?_) ?_
        · simp only [xa, xb, xc]
          go_simp
          obtain ⟨g11, hgf⟩ : ∃ g, Z16_1_2.heap.size = g := ⟨_, rfl⟩
          obtain ⟨Z16_1_2_6, hY⟩ : ∃ V, Z16_1_2.alloc (.cells #[.int .i64 0, .int .i64 0] 25) = V := ⟨_, rfl⟩
          have qA : Out 0 0 Z16_1_2 Z16_1_2_6 := by rw [← hY]; exact (Out.refl 0 0 _).alloc _
          have f_g11 : Bl Z16_1_2_6 g11 #[.int .i64 0, .int .i64 0] 25 := by rw [← hY, ← hgf]; exact Bl.new _ _ _
          have hl_g11 : lim16 ≤ g11 := by rw [← hgf, ← hlm16]; exact oo.size
          (try rw [hY])
          (try rw [hgf])
          clear hY hgf
          replace kL := kL.kept qA (.inr (Nat.zero_le _))
          replace oo := oo.trans qA
          refine hK.out _ _ ?hS8 (fun hHeld2 => ?rest8)
          case hS8 => exact ⟨qA.cell hHeld.1 (.inr (Nat.zero_le _)), qA.cell hHeld.2 (.inr (Nat.zero_le _))⟩
          clear qA
          clear hK KK
          (try clear hHeld)
          have hHeld := hHeld2
          clear hHeld2
          (try simp only [Act.put, xa, xb, xc, xd, xe, xf])
          refine tk 7 ?_
          refine wpAnyH_ready (rs := [8]) (by kernel_rfl) (by simp) ?_
          refine AllReadyH.cons rfl (fun KK hK => ?_) ?_
          · simp only [xa, xb, xc]
            have y0 := f_g11.cell (i := 0) rfl
            have z0 := f_g11.frozen 0
            have y1 := f_g11.cell (i := 1) rfl
            have z1 := f_g11.frozen 1
            go_simp
            clear y0 z0 y1 z1
            obtain ⟨Z16_1_2_6_8, hY⟩ : ∃ V, ((Z16_1_2_6.setCell ⟨g11, 0, none⟩ (.int .i64 0)).setCell ⟨g11, 1, none⟩ (.int .i64 0)) = V := ⟨_, rfl⟩
            have qS : Out g11 (g11 + 1) Z16_1_2_6 Z16_1_2_6_8 := by rw [← hY]; exact ((Out.refl _ _ _).setCell (p := ⟨g11, 0, none⟩) (.inl ⟨Nat.le_refl _, Nat.lt_succ_self _⟩) _).setCell (p := ⟨g11, 1, none⟩) (.inl ⟨Nat.le_refl _, Nat.lt_succ_self _⟩) _
            replace f_g11 : Bl Z16_1_2_6_8 g11 #[.int .i64 0, .int .i64 0] 25 := by rw [← hY]; exact ((f_g11.set 0 (.int .i64 0)).set 1 (.int .i64 0))
            (try rw [hY])
            clear hY
            replace kL := kL.kept qS (by omega)
            replace oo := oo.past qS (by omega)
            refine hK.out _ _ ?hS10 (fun hHeld2 => ?rest10)
            case hS10 => exact ⟨qS.cell hHeld.1 (by omega), qS.cell hHeld.2 (by omega)⟩
            clear qS
            clear hK KK
            (try clear hHeld)
            have hHeld := hHeld2
            clear hHeld2
            (try simp only [Act.put, xa, xb, xc, xd, xe, xf])
            refine wpAnyH_done (by kernel_rfl) ?_ _
            exact HC g11 _ ⟨f_g11, oo⟩
          · exact AllReadyH.nil
        · exact AllReadyH.nil
      · refine AllReadyH.cons rfl (fun KK hK => ?_) ?_
        · simp only [xa, xb, xc]
          go_simp
          obtain ⟨g11, hgf⟩ : ∃ g, Z16_1.heap.size = g := ⟨_, rfl⟩
          obtain ⟨Z16_1_6, hY⟩ : ∃ V, Z16_1.alloc (.cells #[.int .i64 0, .int .i64 0] 25) = V := ⟨_, rfl⟩
          have qA : Out 0 0 Z16_1 Z16_1_6 := by rw [← hY]; exact (Out.refl 0 0 _).alloc _
          have f_g11 : Bl Z16_1_6 g11 #[.int .i64 0, .int .i64 0] 25 := by rw [← hY, ← hgf]; exact Bl.new _ _ _
          have hl_g11 : lim16 ≤ g11 := by rw [← hgf, ← hlm16]; exact oo.size
          (try rw [hY])
          (try rw [hgf])
          clear hY hgf
          replace kL := kL.kept qA (.inr (Nat.zero_le _))
          replace oo := oo.trans qA
          refine hK.out _ _ ?hS11 (fun hHeld2 => ?rest11)
          case hS11 => exact ⟨qA.cell hHeld.1 (.inr (Nat.zero_le _)), qA.cell hHeld.2 (.inr (Nat.zero_le _))⟩
          clear qA
          clear hK KK
          (try clear hHeld)
          have hHeld := hHeld2
          clear hHeld2
          (try simp only [Act.put, xa, xb, xc, xd, xe, xf])
          refine wpAnyH_ready (rs := [2]) (by kernel_rfl) (by simp) ?_
          refine AllReadyH.cons rfl (fun KK hK => ?_) ?_
          · simp only [xa, xb, xc]
            go_simp
            refine (HG.out _ L 1 _ _ _ _ _ _ _ _ _ kL).mono ?_
            rintro e Z16_1_6_2 ⟨rfl, q1⟩
            replace kL := kL.kept q1 (.inr (Nat.zero_le _))
            replace f_g11 := f_g11.kept q1 (.inr (Nat.zero_le _))
            replace oo := oo.trans q1
            refine hK.out _ _ ?hS12 (fun hHeld2 => ?rest12)
            case hS12 => exact ⟨q1.cell hHeld.1 (.inr (Nat.zero_le _)), q1.cell hHeld.2 (.inr (Nat.zero_le _))⟩
            clear q1
            clear hK KK
            (try clear hHeld)
            have hHeld := hHeld2
            clear hHeld2
            (try simp only [Act.put, xa, xb, xc, xd, xe, xf])
            refine tk 3 ?_
            refine tk 4 ?_
            refine tk 5 ?_
            refine tk 7 ?_
            refine wpAnyH_ready (rs := [8]) (by kernel_rfl) (by simp) ?_
            refine AllReadyH.cons rfl (fun KK hK => ?_) ?_
            · simp only [xa, xb, xc]
              have y0 := f_g11.cell (i := 0) rfl
              have z0 := f_g11.frozen 0
              have y1 := f_g11.cell (i := 1) rfl
              have z1 := f_g11.frozen 1
              go_simp
              clear y0 z0 y1 z1
              obtain ⟨Z16_1_6_2_8, hY⟩ : ∃ V, ((Z16_1_6_2.setCell ⟨g11, 0, none⟩ (.int .i64 0)).setCell ⟨g11, 1, none⟩ (.int .i64 0)) = V := ⟨_, rfl⟩
              have qS : Out g11 (g11 + 1) Z16_1_6_2 Z16_1_6_2_8 := by rw [← hY]; exact ((Out.refl _ _ _).setCell (p := ⟨g11, 0, none⟩) (.inl ⟨Nat.le_refl _, Nat.lt_succ_self _⟩) _).setCell (p := ⟨g11, 1, none⟩) (.inl ⟨Nat.le_refl _, Nat.lt_succ_self _⟩) _
              replace f_g11 : Bl Z16_1_6_2_8 g11 #[.int .i64 0, .int .i64 0] 25 := by rw [← hY]; exact ((f_g11.set 0 (.int .i64 0)).set 1 (.int .i64 0))
              (try rw [hY])
              clear hY
              replace kL := kL.kept qS (by omega)
              replace oo := oo.past qS (by omega)
              refine hK.out _ _ ?hS17 (fun hHeld2 => ?rest17)
              case hS17 => exact ⟨qS.cell hHeld.1 (by omega), qS.cell hHeld.2 (by omega)⟩
              clear qS
              clear hK KK
              (try clear hHeld)
              have hHeld := hHeld2
              clear hHeld2
              (try simp only [Act.put, xa, xb, xc, xd, xe, xf])
              refine wpAnyH_done (by kernel_rfl) ?_ _
              exact HC g11 _ ⟨f_g11, oo⟩
            · exact AllReadyH.nil
          · exact AllReadyH.nil
        · exact AllReadyH.nil
    · refine AllReadyH.cons rfl (fun KK hK => ?_) ?_
      · simp only [xa, xb, xc]
        go_simp
        obtain ⟨g11, hgf⟩ : ∃ g, Z16.heap.size = g := ⟨_, rfl⟩
        obtain ⟨Z16_6, hY⟩ : ∃ V, Z16.alloc (.cells #[.int .i64 0, .int .i64 0] 25) = V := ⟨_, rfl⟩
        have qA : Out 0 0 Z16 Z16_6 := by rw [← hY]; exact (Out.refl 0 0 _).alloc _
        have f_g11 : Bl Z16_6 g11 #[.int .i64 0, .int .i64 0] 25 := by rw [← hY, ← hgf]; exact Bl.new _ _ _
        have hl_g11 : lim16 ≤ g11 := by rw [← hgf, ← hlm16]; exact oo.size
        (try rw [hY])
        (try rw [hgf])
        clear hY hgf
        replace kL := kL.kept qA (.inr (Nat.zero_le _))
        replace oo := oo.trans qA
        refine hK.out _ _ ?hS18 (fun hHeld2 => ?rest18)
        case hS18 => exact ⟨qA.cell hHeld.1 (.inr (Nat.zero_le _)), qA.cell hHeld.2 (.inr (Nat.zero_le _))⟩
        clear qA
        clear hK KK
        (try clear hHeld)
        have hHeld := hHeld2
        clear hHeld2
        (try simp only [Act.put, xa, xb, xc, xd, xe, xf])
        refine wpAnyH_ready (rs := [1]) (by kernel_rfl) (by simp) ?_
        refine AllReadyH.cons rfl (fun KK hK => ?_) ?_
        · simp only [xa, xb, xc]
          go_simp
          refine (ref_any 5 _).mono ?_
          rintro e Z16_6_1 ⟨rfl, q1⟩
          replace kL := kL.kept q1 (.inr (Nat.zero_le _))
          replace f_g11 := f_g11.kept q1 (.inr (Nat.zero_le _))
          replace oo := oo.trans q1
          refine hK.out _ _ ?hS19 (fun hHeld2 => ?rest19)
          case hS19 => exact ⟨q1.cell hHeld.1 (.inr (Nat.zero_le _)), q1.cell hHeld.2 (.inr (Nat.zero_le _))⟩
          clear q1
          clear hK KK
          (try clear hHeld)
          have hHeld := hHeld2
          clear hHeld2
          (try simp only [Act.put, xa, xb, xc, xd, xe, xf])
          refine wpAnyH_ready (rs := [2]) (by kernel_rfl) (by simp) ?_
          refine AllReadyH.cons rfl (fun KK hK => ?_) ?_
          · simp only [xa, xb, xc]
            go_simp
            refine (HG.out _ L 1 _ _ _ _ _ _ _ _ _ kL).mono ?_
            rintro e Z16_6_1_2 ⟨rfl, q1⟩
            replace kL := kL.kept q1 (.inr (Nat.zero_le _))
            replace f_g11 := f_g11.kept q1 (.inr (Nat.zero_le _))
            replace oo := oo.trans q1
            refine hK.out _ _ ?hS20 (fun hHeld2 => ?rest20)
            case hS20 => exact ⟨q1.cell hHeld.1 (.inr (Nat.zero_le _)), q1.cell hHeld.2 (.inr (Nat.zero_le _))⟩
            clear q1
            clear hK KK
            (try clear hHeld)
            have hHeld := hHeld2
            clear hHeld2
            (try simp only [Act.put, xa, xb, xc, xd, xe, xf])
            refine tk 3 ?_
            refine tk 4 ?_
            refine tk 5 ?_
            refine tk 7 ?_
            refine wpAnyH_ready (rs := [8]) (by kernel_rfl) (by simp) ?_
            refine AllReadyH.cons rfl (fun KK hK => ?_) ?_
            · simp only [xa, xb, xc]
              have y0 := f_g11.cell (i := 0) rfl
              have z0 := f_g11.frozen 0
              have y1 := f_g11.cell (i := 1) rfl
              have z1 := f_g11.frozen 1
              go_simp
              clear y0 z0 y1 z1
              obtain ⟨Z16_6_1_2_8, hY⟩ : ∃ V, ((Z16_6_1_2.setCell ⟨g11, 0, none⟩ (.int .i64 0)).setCell ⟨g11, 1, none⟩ (.int .i64 0)) = V := ⟨_, rfl⟩
              have qS : Out g11 (g11 + 1) Z16_6_1_2 Z16_6_1_2_8 := by rw [← hY]; exact ((Out.refl _ _ _).setCell (p := ⟨g11, 0, none⟩) (.inl ⟨Nat.le_refl _, Nat.lt_succ_self _⟩) _).setCell (p := ⟨g11, 1, none⟩) (.inl ⟨Nat.le_refl _, Nat.lt_succ_self _⟩) _
              replace f_g11 : Bl Z16_6_1_2_8 g11 #[.int .i64 0, .int .i64 0] 25 := by rw [← hY]; exact ((f_g11.set 0 (.int .i64 0)).set 1 (.int .i64 0))
              (try rw [hY])
              clear hY
              replace kL := kL.kept qS (by omega)
              replace oo := oo.past qS (by omega)
              refine hK.out _ _ ?hS25 (fun hHeld2 => ?rest25)
              case hS25 => exact ⟨qS.cell hHeld.1 (by omega), qS.cell hHeld.2 (by omega)⟩
              clear qS
              clear hK KK
              (try clear hHeld)
              have hHeld := hHeld2
              clear hHeld2
              (try simp only [Act.put, xa, xb, xc, xd, xe, xf])
              refine wpAnyH_done (by kernel_rfl) ?_ _
              exact HC g11 _ ⟨f_g11, oo⟩
            · exact AllReadyH.nil
          · exact AllReadyH.nil
        · exact AllReadyH.nil
      · exact AllReadyH.nil
  case h2 =>
    rintro g11 V1 ⟨kF, oV⟩
    refine hK _ _ ?_
    have y0 := kF.cell (i := 0) rfl
    have y1 := kF.cell (i := 1) rfl
    have HE := hid_mk (HO0.out.trans oV)
    clear kF oV g0 g1 kL
    go_wp2_with (go_at_call 11; refine (good_ok _).mono ?_; rintro e w4 ⟨rfl, o4⟩)
    go_ret
    exact ⟨rfl, HE.out.trans o4⟩
set_option maxRecDepth 100000 in
set_option maxHeartbeats 8000000 in
theorem leaves_8 {W : World} {a b : Int} (ht : Tp W) :
    Calls Tryd.prog 6 #[.int .i64 8, .int .i64 a, .int .i64 b] W fun e w' => e = .returned (.bool true) ∧ Out 0 0 W w' := by
  have HA := hid_mk (alive_any ht)
  have HG := hid_mk (fun (W1 : World) (L c : Nat) (a1 a2 a3 : Option Addr) (l1 l2 l3 c1 c2 c3 : Nat) (hL : Bl W1 L #[.int .i64 5, .int .i64 8, .slice a1 l1 c1, .slice a2 l2 c2, .slice a3 l3 c3] 42) => graph_leaf (c := c) (s := ⟨#[35, 60, 119, 101, 97, 107, 62]⟩) (by decide) (by decide) hL)
  clear ht
  go_enter Tryd.func6, Tryd.ntmps6
  go_wp2_with (first
    | (go_at_call 7; refine HA.out.mono ?_; rintro e w1 ⟨rfl, o1⟩)
    | (go_at_call 12; refine (ref_any _ _).mono ?_; rintro e w2 ⟨rfl, o2⟩)
    | (go_at_call 9; refine (fix_any _ _).mono ?_; rintro e w3 ⟨rfl, o3⟩))
  rename_i u1 p1 u2 p2 K hK
  refine wp_named (fun W0 hW0 => ?_)
  obtain ⟨x1, kL⟩ : ∃ x1 : Addr, Bl W0 (w3.heap.size + 1) #[.int .i64 5, .int .i64 8, .slice (some ⟨w1.heap.size, 0, none⟩) 2 2, .slice (some x1) 2 2, .slice (some ⟨w3.heap.size, 0, none⟩) 1 1] 42 := by
    refine ⟨⟨u2.heap.size, 0, none⟩, ?_⟩
    rw [hW0]
    exact new2 _ _ _ _ _
  have kG : Bl W0 (w3.heap.size + 1 + 1) #[.slice (some ⟨w3.heap.size + 1, 0, none⟩) 1 1, .slice none 0 0] 31 := by
    rw [hW0]
    exact new3 _ _ _ _ _
  have o0 : Out 0 0 W W0 := by
    rw [hW0]
    exact (((((((o1.alloc _).trans p1).trans p2).alloc _).trans o2).trans o3).alloc _).alloc _ |>.alloc _
  obtain ⟨L, hL⟩ : ∃ l, w3.heap.size + 1 = l := ⟨_, rfl⟩
  obtain ⟨G, hG⟩ : ∃ g, L + 1 = g := ⟨_, rfl⟩
  rw [hL, hG] at kG
  rw [hL] at kL
  rw [hL, hG]
  have g0 := kG.cell (i := 0) rfl
  have g1 := kG.cell (i := 1) rfl
  have hGl := kG.lt
  have hLl := kL.lt
  have HO0 := hid_mk o0
  clear hL hG hW0 o0 kG o1 o2 o3 p1 p2
  apply cut1 (K := K) (F := fun g11 V => Bl V g11 #[.int .i64 0, .int .i64 0] 25 ∧ Out 0 0 W0 V)
  case h1 =>
    intro HC
    obtain ⟨lim16, hlm16⟩ : ∃ l, W0.heap.size = l := ⟨_, rfl⟩
    refine wp_region_held_drew (S := fun w' => w'.cell? ⟨G, 0, none⟩ = some (.slice (some ⟨L, 0, none⟩) 1 1) ∧ w'.cell? ⟨G, 1, none⟩ = some (.slice none 0 0)) (by kernel_rfl) ?hS26 (fun hHeld => ?rest26)
    case hS26 => exact ⟨g0, g1⟩
    obtain ⟨Z16, hZ⟩ : ∃ Z, W0.drew = Z := ⟨_, rfl⟩
    have oZ : Out 0 0 W0 Z16 := by rw [← hZ]; exact (Out.refl 0 0 _).drew
    have oo := oZ
    rw [hZ] at hHeld ⊢
    replace kL := kL.kept oZ (.inr (Nat.zero_le _))
    clear hZ oZ
    refine tk 0 ?_
    refine wpAnyH_ready (rs := [1, 6]) (by kernel_rfl) (by simp) ?_
    refine AllReadyH.cons rfl (fun KK hK => ?_) ?_
    · simp only [xa, xb, xc]
      go_simp
      refine (ref_any 5 _).mono ?_
      rintro e Z16_1 ⟨rfl, q1⟩
      replace kL := kL.kept q1 (.inr (Nat.zero_le _))
      replace oo := oo.trans q1
      refine hK.out _ _ ?hS28 (fun hHeld2 => ?rest28)
      case hS28 => exact ⟨q1.cell hHeld.1 (.inr (Nat.zero_le _)), q1.cell hHeld.2 (.inr (Nat.zero_le _))⟩
      clear q1
      clear hK KK
      (try clear hHeld)
      have hHeld := hHeld2
      clear hHeld2
      (try simp only [Act.put, xa, xb, xc, xd, xe, xf])
      refine wpAnyH_ready (rs := [2, 6]) (by kernel_rfl) (by simp) ?_
      refine AllReadyH.cons rfl (fun KK hK => ?_) ?_
      · simp only [xa, xb, xc]
        go_simp
        refine (HG.out _ L 1 _ _ _ _ _ _ _ _ _ kL).mono ?_
        rintro e Z16_1_2 ⟨rfl, q1⟩
        replace kL := kL.kept q1 (.inr (Nat.zero_le _))
        replace oo := oo.trans q1
        refine hK.out _ _ ?hS29 (fun hHeld2 => ?rest29)
        case hS29 => exact ⟨q1.cell hHeld.1 (.inr (Nat.zero_le _)), q1.cell hHeld.2 (.inr (Nat.zero_le _))⟩
        clear q1
        clear hK KK
        (try clear hHeld)
        have hHeld := hHeld2
        clear hHeld2
        (try simp only [Act.put, xa, xb, xc, xd, xe, xf])
        refine tk 3 ?_
        refine tk 4 ?_
        refine tk 5 ?_
        refine wpAnyH_ready (rs := [6]) (by kernel_rfl) (by simp) ?_
        refine AllReadyH.cons rfl (fun KK hK => ?_) ?_
        · simp only [xa, xb, xc]
          go_simp
          obtain ⟨g11, hgf⟩ : ∃ g, Z16_1_2.heap.size = g := ⟨_, rfl⟩
          obtain ⟨Z16_1_2_6, hY⟩ : ∃ V, Z16_1_2.alloc (.cells #[.int .i64 0, .int .i64 0] 25) = V := ⟨_, rfl⟩
          have qA : Out 0 0 Z16_1_2 Z16_1_2_6 := by rw [← hY]; exact (Out.refl 0 0 _).alloc _
          have f_g11 : Bl Z16_1_2_6 g11 #[.int .i64 0, .int .i64 0] 25 := by rw [← hY, ← hgf]; exact Bl.new _ _ _
          have hl_g11 : lim16 ≤ g11 := by rw [← hgf, ← hlm16]; exact oo.size
          (try rw [hY])
          (try rw [hgf])
          clear hY hgf
          replace kL := kL.kept qA (.inr (Nat.zero_le _))
          replace oo := oo.trans qA
          refine hK.out _ _ ?hS33 (fun hHeld2 => ?rest33)
          case hS33 => exact ⟨qA.cell hHeld.1 (.inr (Nat.zero_le _)), qA.cell hHeld.2 (.inr (Nat.zero_le _))⟩
          clear qA
          clear hK KK
          (try clear hHeld)
          have hHeld := hHeld2
          clear hHeld2
          (try simp only [Act.put, xa, xb, xc, xd, xe, xf])
          refine tk 7 ?_
          refine wpAnyH_ready (rs := [8]) (by kernel_rfl) (by simp) ?_
          refine AllReadyH.cons rfl (fun KK hK => ?_) ?_
          · simp only [xa, xb, xc]
            have y0 := f_g11.cell (i := 0) rfl
            have z0 := f_g11.frozen 0
            have y1 := f_g11.cell (i := 1) rfl
            have z1 := f_g11.frozen 1
            go_simp
            clear y0 z0 y1 z1
            obtain ⟨Z16_1_2_6_8, hY⟩ : ∃ V, ((Z16_1_2_6.setCell ⟨g11, 0, none⟩ (.int .i64 0)).setCell ⟨g11, 1, none⟩ (.int .i64 0)) = V := ⟨_, rfl⟩
            have qS : Out g11 (g11 + 1) Z16_1_2_6 Z16_1_2_6_8 := by rw [← hY]; exact ((Out.refl _ _ _).setCell (p := ⟨g11, 0, none⟩) (.inl ⟨Nat.le_refl _, Nat.lt_succ_self _⟩) _).setCell (p := ⟨g11, 1, none⟩) (.inl ⟨Nat.le_refl _, Nat.lt_succ_self _⟩) _
            replace f_g11 : Bl Z16_1_2_6_8 g11 #[.int .i64 0, .int .i64 0] 25 := by rw [← hY]; exact ((f_g11.set 0 (.int .i64 0)).set 1 (.int .i64 0))
            (try rw [hY])
            clear hY
            replace kL := kL.kept qS (by omega)
            replace oo := oo.past qS (by omega)
            refine hK.out _ _ ?hS35 (fun hHeld2 => ?rest35)
            case hS35 => exact ⟨qS.cell hHeld.1 (by omega), qS.cell hHeld.2 (by omega)⟩
            clear qS
            clear hK KK
            (try clear hHeld)
            have hHeld := hHeld2
            clear hHeld2
            (try simp only [Act.put, xa, xb, xc, xd, xe, xf])
            refine wpAnyH_done (by kernel_rfl) ?_ _
            exact HC g11 _ ⟨f_g11, oo⟩
          · exact AllReadyH.nil
        · exact AllReadyH.nil
      · refine AllReadyH.cons rfl (fun KK hK => ?_) ?_
        · simp only [xa, xb, xc]
          go_simp
          obtain ⟨g11, hgf⟩ : ∃ g, Z16_1.heap.size = g := ⟨_, rfl⟩
          obtain ⟨Z16_1_6, hY⟩ : ∃ V, Z16_1.alloc (.cells #[.int .i64 0, .int .i64 0] 25) = V := ⟨_, rfl⟩
          have qA : Out 0 0 Z16_1 Z16_1_6 := by rw [← hY]; exact (Out.refl 0 0 _).alloc _
          have f_g11 : Bl Z16_1_6 g11 #[.int .i64 0, .int .i64 0] 25 := by rw [← hY, ← hgf]; exact Bl.new _ _ _
          have hl_g11 : lim16 ≤ g11 := by rw [← hgf, ← hlm16]; exact oo.size
          (try rw [hY])
          (try rw [hgf])
          clear hY hgf
          replace kL := kL.kept qA (.inr (Nat.zero_le _))
          replace oo := oo.trans qA
          refine hK.out _ _ ?hS36 (fun hHeld2 => ?rest36)
          case hS36 => exact ⟨qA.cell hHeld.1 (.inr (Nat.zero_le _)), qA.cell hHeld.2 (.inr (Nat.zero_le _))⟩
          clear qA
          clear hK KK
          (try clear hHeld)
          have hHeld := hHeld2
          clear hHeld2
          (try simp only [Act.put, xa, xb, xc, xd, xe, xf])
          refine wpAnyH_ready (rs := [2]) (by kernel_rfl) (by simp) ?_
          refine AllReadyH.cons rfl (fun KK hK => ?_) ?_
          · simp only [xa, xb, xc]
            go_simp
            refine (HG.out _ L 1 _ _ _ _ _ _ _ _ _ kL).mono ?_
            rintro e Z16_1_6_2 ⟨rfl, q1⟩
            replace kL := kL.kept q1 (.inr (Nat.zero_le _))
            replace f_g11 := f_g11.kept q1 (.inr (Nat.zero_le _))
            replace oo := oo.trans q1
            refine hK.out _ _ ?hS37 (fun hHeld2 => ?rest37)
            case hS37 => exact ⟨q1.cell hHeld.1 (.inr (Nat.zero_le _)), q1.cell hHeld.2 (.inr (Nat.zero_le _))⟩
            clear q1
            clear hK KK
            (try clear hHeld)
            have hHeld := hHeld2
            clear hHeld2
            (try simp only [Act.put, xa, xb, xc, xd, xe, xf])
            refine tk 3 ?_
            refine tk 4 ?_
            refine tk 5 ?_
            refine tk 7 ?_
            refine wpAnyH_ready (rs := [8]) (by kernel_rfl) (by simp) ?_
            refine AllReadyH.cons rfl (fun KK hK => ?_) ?_
            · simp only [xa, xb, xc]
              have y0 := f_g11.cell (i := 0) rfl
              have z0 := f_g11.frozen 0
              have y1 := f_g11.cell (i := 1) rfl
              have z1 := f_g11.frozen 1
              go_simp
              clear y0 z0 y1 z1
              obtain ⟨Z16_1_6_2_8, hY⟩ : ∃ V, ((Z16_1_6_2.setCell ⟨g11, 0, none⟩ (.int .i64 0)).setCell ⟨g11, 1, none⟩ (.int .i64 0)) = V := ⟨_, rfl⟩
              have qS : Out g11 (g11 + 1) Z16_1_6_2 Z16_1_6_2_8 := by rw [← hY]; exact ((Out.refl _ _ _).setCell (p := ⟨g11, 0, none⟩) (.inl ⟨Nat.le_refl _, Nat.lt_succ_self _⟩) _).setCell (p := ⟨g11, 1, none⟩) (.inl ⟨Nat.le_refl _, Nat.lt_succ_self _⟩) _
              replace f_g11 : Bl Z16_1_6_2_8 g11 #[.int .i64 0, .int .i64 0] 25 := by rw [← hY]; exact ((f_g11.set 0 (.int .i64 0)).set 1 (.int .i64 0))
              (try rw [hY])
              clear hY
              replace kL := kL.kept qS (by omega)
              replace oo := oo.past qS (by omega)
              refine hK.out _ _ ?hS42 (fun hHeld2 => ?rest42)
              case hS42 => exact ⟨qS.cell hHeld.1 (by omega), qS.cell hHeld.2 (by omega)⟩
              clear qS
              clear hK KK
              (try clear hHeld)
              have hHeld := hHeld2
              clear hHeld2
              (try simp only [Act.put, xa, xb, xc, xd, xe, xf])
              refine wpAnyH_done (by kernel_rfl) ?_ _
              exact HC g11 _ ⟨f_g11, oo⟩
            · exact AllReadyH.nil
          · exact AllReadyH.nil
        · exact AllReadyH.nil
    · refine AllReadyH.cons rfl (fun KK hK => ?_) ?_
      · simp only [xa, xb, xc]
        go_simp
        obtain ⟨g11, hgf⟩ : ∃ g, Z16.heap.size = g := ⟨_, rfl⟩
        obtain ⟨Z16_6, hY⟩ : ∃ V, Z16.alloc (.cells #[.int .i64 0, .int .i64 0] 25) = V := ⟨_, rfl⟩
        have qA : Out 0 0 Z16 Z16_6 := by rw [← hY]; exact (Out.refl 0 0 _).alloc _
        have f_g11 : Bl Z16_6 g11 #[.int .i64 0, .int .i64 0] 25 := by rw [← hY, ← hgf]; exact Bl.new _ _ _
        have hl_g11 : lim16 ≤ g11 := by rw [← hgf, ← hlm16]; exact oo.size
        (try rw [hY])
        (try rw [hgf])
        clear hY hgf
        replace kL := kL.kept qA (.inr (Nat.zero_le _))
        replace oo := oo.trans qA
        refine hK.out _ _ ?hS43 (fun hHeld2 => ?rest43)
        case hS43 => exact ⟨qA.cell hHeld.1 (.inr (Nat.zero_le _)), qA.cell hHeld.2 (.inr (Nat.zero_le _))⟩
        clear qA
        clear hK KK
        (try clear hHeld)
        have hHeld := hHeld2
        clear hHeld2
        (try simp only [Act.put, xa, xb, xc, xd, xe, xf])
        refine wpAnyH_ready (rs := [1]) (by kernel_rfl) (by simp) ?_
        refine AllReadyH.cons rfl (fun KK hK => ?_) ?_
        · simp only [xa, xb, xc]
          go_simp
          refine (ref_any 5 _).mono ?_
          rintro e Z16_6_1 ⟨rfl, q1⟩
          replace kL := kL.kept q1 (.inr (Nat.zero_le _))
          replace f_g11 := f_g11.kept q1 (.inr (Nat.zero_le _))
          replace oo := oo.trans q1
          refine hK.out _ _ ?hS44 (fun hHeld2 => ?rest44)
          case hS44 => exact ⟨q1.cell hHeld.1 (.inr (Nat.zero_le _)), q1.cell hHeld.2 (.inr (Nat.zero_le _))⟩
          clear q1
          clear hK KK
          (try clear hHeld)
          have hHeld := hHeld2
          clear hHeld2
          (try simp only [Act.put, xa, xb, xc, xd, xe, xf])
          refine wpAnyH_ready (rs := [2]) (by kernel_rfl) (by simp) ?_
          refine AllReadyH.cons rfl (fun KK hK => ?_) ?_
          · simp only [xa, xb, xc]
            go_simp
            refine (HG.out _ L 1 _ _ _ _ _ _ _ _ _ kL).mono ?_
            rintro e Z16_6_1_2 ⟨rfl, q1⟩
            replace kL := kL.kept q1 (.inr (Nat.zero_le _))
            replace f_g11 := f_g11.kept q1 (.inr (Nat.zero_le _))
            replace oo := oo.trans q1
            refine hK.out _ _ ?hS45 (fun hHeld2 => ?rest45)
            case hS45 => exact ⟨q1.cell hHeld.1 (.inr (Nat.zero_le _)), q1.cell hHeld.2 (.inr (Nat.zero_le _))⟩
            clear q1
            clear hK KK
            (try clear hHeld)
            have hHeld := hHeld2
            clear hHeld2
            (try simp only [Act.put, xa, xb, xc, xd, xe, xf])
            refine tk 3 ?_
            refine tk 4 ?_
            refine tk 5 ?_
            refine tk 7 ?_
            refine wpAnyH_ready (rs := [8]) (by kernel_rfl) (by simp) ?_
            refine AllReadyH.cons rfl (fun KK hK => ?_) ?_
            · simp only [xa, xb, xc]
              have y0 := f_g11.cell (i := 0) rfl
              have z0 := f_g11.frozen 0
              have y1 := f_g11.cell (i := 1) rfl
              have z1 := f_g11.frozen 1
              go_simp
              clear y0 z0 y1 z1
              obtain ⟨Z16_6_1_2_8, hY⟩ : ∃ V, ((Z16_6_1_2.setCell ⟨g11, 0, none⟩ (.int .i64 0)).setCell ⟨g11, 1, none⟩ (.int .i64 0)) = V := ⟨_, rfl⟩
              have qS : Out g11 (g11 + 1) Z16_6_1_2 Z16_6_1_2_8 := by rw [← hY]; exact ((Out.refl _ _ _).setCell (p := ⟨g11, 0, none⟩) (.inl ⟨Nat.le_refl _, Nat.lt_succ_self _⟩) _).setCell (p := ⟨g11, 1, none⟩) (.inl ⟨Nat.le_refl _, Nat.lt_succ_self _⟩) _
              replace f_g11 : Bl Z16_6_1_2_8 g11 #[.int .i64 0, .int .i64 0] 25 := by rw [← hY]; exact ((f_g11.set 0 (.int .i64 0)).set 1 (.int .i64 0))
              (try rw [hY])
              clear hY
              replace kL := kL.kept qS (by omega)
              replace oo := oo.past qS (by omega)
              refine hK.out _ _ ?hS50 (fun hHeld2 => ?rest50)
              case hS50 => exact ⟨qS.cell hHeld.1 (by omega), qS.cell hHeld.2 (by omega)⟩
              clear qS
              clear hK KK
              (try clear hHeld)
              have hHeld := hHeld2
              clear hHeld2
              (try simp only [Act.put, xa, xb, xc, xd, xe, xf])
              refine wpAnyH_done (by kernel_rfl) ?_ _
              exact HC g11 _ ⟨f_g11, oo⟩
            · exact AllReadyH.nil
          · exact AllReadyH.nil
        · exact AllReadyH.nil
      · exact AllReadyH.nil
  case h2 =>
    rintro g11 V1 ⟨kF, oV⟩
    refine hK _ _ ?_
    have y0 := kF.cell (i := 0) rfl
    have y1 := kF.cell (i := 1) rfl
    have HE := hid_mk (HO0.out.trans oV)
    clear kF oV g0 g1 kL
    go_wp2_with (go_at_call 11; refine (good_ok _).mono ?_; rintro e w4 ⟨rfl, o4⟩)
    go_ret
    exact ⟨rfl, HE.out.trans o4⟩
set_option maxRecDepth 100000 in
set_option maxHeartbeats 8000000 in
theorem leaves_9 {W : World} {a b : Int} (ht : Tp W) :
    Calls Tryd.prog 6 #[.int .i64 9, .int .i64 a, .int .i64 b] W fun e w' => e = .returned (.bool true) ∧ Out 0 0 W w' := by
  have HA := hid_mk (alive_any ht)
  have HG := hid_mk (fun (W1 : World) (L c : Nat) (a1 a2 a3 : Option Addr) (l1 l2 l3 c1 c2 c3 : Nat) (hL : Bl W1 L #[.int .i64 5, .int .i64 9, .slice a1 l1 c1, .slice a2 l2 c2, .slice a3 l3 c3] 42) => graph_leaf (c := c) (s := ⟨#[35, 60, 101, 112, 104, 101, 109, 101, 114, 111, 110, 62]⟩) (by decide) (by decide) hL)
  clear ht
  go_enter Tryd.func6, Tryd.ntmps6
  go_wp2_with (first
    | (go_at_call 7; refine HA.out.mono ?_; rintro e w1 ⟨rfl, o1⟩)
    | (go_at_call 12; refine (ref_any _ _).mono ?_; rintro e w2 ⟨rfl, o2⟩)
    | (go_at_call 9; refine (fix_any _ _).mono ?_; rintro e w3 ⟨rfl, o3⟩))
  rename_i u1 p1 u2 p2 K hK
  refine wp_named (fun W0 hW0 => ?_)
  obtain ⟨x1, kL⟩ : ∃ x1 : Addr, Bl W0 (w3.heap.size + 1) #[.int .i64 5, .int .i64 9, .slice (some ⟨w1.heap.size, 0, none⟩) 2 2, .slice (some x1) 2 2, .slice (some ⟨w3.heap.size, 0, none⟩) 1 1] 42 := by
    refine ⟨⟨u2.heap.size, 0, none⟩, ?_⟩
    rw [hW0]
    exact new2 _ _ _ _ _
  have kG : Bl W0 (w3.heap.size + 1 + 1) #[.slice (some ⟨w3.heap.size + 1, 0, none⟩) 1 1, .slice none 0 0] 31 := by
    rw [hW0]
    exact new3 _ _ _ _ _
  have o0 : Out 0 0 W W0 := by
    rw [hW0]
    exact (((((((o1.alloc _).trans p1).trans p2).alloc _).trans o2).trans o3).alloc _).alloc _ |>.alloc _
  obtain ⟨L, hL⟩ : ∃ l, w3.heap.size + 1 = l := ⟨_, rfl⟩
  obtain ⟨G, hG⟩ : ∃ g, L + 1 = g := ⟨_, rfl⟩
  rw [hL, hG] at kG
  rw [hL] at kL
  rw [hL, hG]
  have g0 := kG.cell (i := 0) rfl
  have g1 := kG.cell (i := 1) rfl
  have hGl := kG.lt
  have hLl := kL.lt
  have HO0 := hid_mk o0
  clear hL hG hW0 o0 kG o1 o2 o3 p1 p2
  apply cut1 (K := K) (F := fun g11 V => Bl V g11 #[.int .i64 0, .int .i64 0] 25 ∧ Out 0 0 W0 V)
  case h1 =>
    intro HC
    obtain ⟨lim16, hlm16⟩ : ∃ l, W0.heap.size = l := ⟨_, rfl⟩
    refine wp_region_held_drew (S := fun w' => w'.cell? ⟨G, 0, none⟩ = some (.slice (some ⟨L, 0, none⟩) 1 1) ∧ w'.cell? ⟨G, 1, none⟩ = some (.slice none 0 0)) (by kernel_rfl) ?hS51 (fun hHeld => ?rest51)
    case hS51 => exact ⟨g0, g1⟩
    obtain ⟨Z16, hZ⟩ : ∃ Z, W0.drew = Z := ⟨_, rfl⟩
    have oZ : Out 0 0 W0 Z16 := by rw [← hZ]; exact (Out.refl 0 0 _).drew
    have oo := oZ
    rw [hZ] at hHeld ⊢
    replace kL := kL.kept oZ (.inr (Nat.zero_le _))
    clear hZ oZ
    refine tk 0 ?_
    refine wpAnyH_ready (rs := [1, 6]) (by kernel_rfl) (by simp) ?_
    refine AllReadyH.cons rfl (fun KK hK => ?_) ?_
    · simp only [xa, xb, xc]
      go_simp
      refine (ref_any 5 _).mono ?_
      rintro e Z16_1 ⟨rfl, q1⟩
      replace kL := kL.kept q1 (.inr (Nat.zero_le _))
      replace oo := oo.trans q1
      refine hK.out _ _ ?hS53 (fun hHeld2 => ?rest53)
      case hS53 => exact ⟨q1.cell hHeld.1 (.inr (Nat.zero_le _)), q1.cell hHeld.2 (.inr (Nat.zero_le _))⟩
      clear q1
      clear hK KK
      (try clear hHeld)
      have hHeld := hHeld2
      clear hHeld2
      (try simp only [Act.put, xa, xb, xc, xd, xe, xf])
      refine wpAnyH_ready (rs := [2, 6]) (by kernel_rfl) (by simp) ?_
      refine AllReadyH.cons rfl (fun KK hK => ?_) ?_
      · simp only [xa, xb, xc]
        go_simp
        refine (HG.out _ L 1 _ _ _ _ _ _ _ _ _ kL).mono ?_
        rintro e Z16_1_2 ⟨rfl, q1⟩
        replace kL := kL.kept q1 (.inr (Nat.zero_le _))
        replace oo := oo.trans q1
        refine hK.out _ _ ?hS54 (fun hHeld2 => ?rest54)
        case hS54 => exact ⟨q1.cell hHeld.1 (.inr (Nat.zero_le _)), q1.cell hHeld.2 (.inr (Nat.zero_le _))⟩
        clear q1
        clear hK KK
        (try clear hHeld)
        have hHeld := hHeld2
        clear hHeld2
        (try simp only [Act.put, xa, xb, xc, xd, xe, xf])
        refine tk 3 ?_
        refine tk 4 ?_
        refine tk 5 ?_
        refine wpAnyH_ready (rs := [6]) (by kernel_rfl) (by simp) ?_
        refine AllReadyH.cons rfl (fun KK hK => ?_) ?_
        · simp only [xa, xb, xc]
          go_simp
          obtain ⟨g11, hgf⟩ : ∃ g, Z16_1_2.heap.size = g := ⟨_, rfl⟩
          obtain ⟨Z16_1_2_6, hY⟩ : ∃ V, Z16_1_2.alloc (.cells #[.int .i64 0, .int .i64 0] 25) = V := ⟨_, rfl⟩
          have qA : Out 0 0 Z16_1_2 Z16_1_2_6 := by rw [← hY]; exact (Out.refl 0 0 _).alloc _
          have f_g11 : Bl Z16_1_2_6 g11 #[.int .i64 0, .int .i64 0] 25 := by rw [← hY, ← hgf]; exact Bl.new _ _ _
          have hl_g11 : lim16 ≤ g11 := by rw [← hgf, ← hlm16]; exact oo.size
          (try rw [hY])
          (try rw [hgf])
          clear hY hgf
          replace kL := kL.kept qA (.inr (Nat.zero_le _))
          replace oo := oo.trans qA
          refine hK.out _ _ ?hS58 (fun hHeld2 => ?rest58)
          case hS58 => exact ⟨qA.cell hHeld.1 (.inr (Nat.zero_le _)), qA.cell hHeld.2 (.inr (Nat.zero_le _))⟩
          clear qA
          clear hK KK
          (try clear hHeld)
          have hHeld := hHeld2
          clear hHeld2
          (try simp only [Act.put, xa, xb, xc, xd, xe, xf])
          refine tk 7 ?_
          refine wpAnyH_ready (rs := [8]) (by kernel_rfl) (by simp) ?_
          refine AllReadyH.cons rfl (fun KK hK => ?_) ?_
          · simp only [xa, xb, xc]
            have y0 := f_g11.cell (i := 0) rfl
            have z0 := f_g11.frozen 0
            have y1 := f_g11.cell (i := 1) rfl
            have z1 := f_g11.frozen 1
            go_simp
            clear y0 z0 y1 z1
            obtain ⟨Z16_1_2_6_8, hY⟩ : ∃ V, ((Z16_1_2_6.setCell ⟨g11, 0, none⟩ (.int .i64 0)).setCell ⟨g11, 1, none⟩ (.int .i64 0)) = V := ⟨_, rfl⟩
            have qS : Out g11 (g11 + 1) Z16_1_2_6 Z16_1_2_6_8 := by rw [← hY]; exact ((Out.refl _ _ _).setCell (p := ⟨g11, 0, none⟩) (.inl ⟨Nat.le_refl _, Nat.lt_succ_self _⟩) _).setCell (p := ⟨g11, 1, none⟩) (.inl ⟨Nat.le_refl _, Nat.lt_succ_self _⟩) _
            replace f_g11 : Bl Z16_1_2_6_8 g11 #[.int .i64 0, .int .i64 0] 25 := by rw [← hY]; exact ((f_g11.set 0 (.int .i64 0)).set 1 (.int .i64 0))
            (try rw [hY])
            clear hY
            replace kL := kL.kept qS (by omega)
            replace oo := oo.past qS (by omega)
            refine hK.out _ _ ?hS60 (fun hHeld2 => ?rest60)
            case hS60 => exact ⟨qS.cell hHeld.1 (by omega), qS.cell hHeld.2 (by omega)⟩
            clear qS
            clear hK KK
            (try clear hHeld)
            have hHeld := hHeld2
            clear hHeld2
            (try simp only [Act.put, xa, xb, xc, xd, xe, xf])
            refine wpAnyH_done (by kernel_rfl) ?_ _
            exact HC g11 _ ⟨f_g11, oo⟩
          · exact AllReadyH.nil
        · exact AllReadyH.nil
      · refine AllReadyH.cons rfl (fun KK hK => ?_) ?_
        · simp only [xa, xb, xc]
          go_simp
          obtain ⟨g11, hgf⟩ : ∃ g, Z16_1.heap.size = g := ⟨_, rfl⟩
          obtain ⟨Z16_1_6, hY⟩ : ∃ V, Z16_1.alloc (.cells #[.int .i64 0, .int .i64 0] 25) = V := ⟨_, rfl⟩
          have qA : Out 0 0 Z16_1 Z16_1_6 := by rw [← hY]; exact (Out.refl 0 0 _).alloc _
          have f_g11 : Bl Z16_1_6 g11 #[.int .i64 0, .int .i64 0] 25 := by rw [← hY, ← hgf]; exact Bl.new _ _ _
          have hl_g11 : lim16 ≤ g11 := by rw [← hgf, ← hlm16]; exact oo.size
          (try rw [hY])
          (try rw [hgf])
          clear hY hgf
          replace kL := kL.kept qA (.inr (Nat.zero_le _))
          replace oo := oo.trans qA
          refine hK.out _ _ ?hS61 (fun hHeld2 => ?rest61)
          case hS61 => exact ⟨qA.cell hHeld.1 (.inr (Nat.zero_le _)), qA.cell hHeld.2 (.inr (Nat.zero_le _))⟩
          clear qA
          clear hK KK
          (try clear hHeld)
          have hHeld := hHeld2
          clear hHeld2
          (try simp only [Act.put, xa, xb, xc, xd, xe, xf])
          refine wpAnyH_ready (rs := [2]) (by kernel_rfl) (by simp) ?_
          refine AllReadyH.cons rfl (fun KK hK => ?_) ?_
          · simp only [xa, xb, xc]
            go_simp
            refine (HG.out _ L 1 _ _ _ _ _ _ _ _ _ kL).mono ?_
            rintro e Z16_1_6_2 ⟨rfl, q1⟩
            replace kL := kL.kept q1 (.inr (Nat.zero_le _))
            replace f_g11 := f_g11.kept q1 (.inr (Nat.zero_le _))
            replace oo := oo.trans q1
            refine hK.out _ _ ?hS62 (fun hHeld2 => ?rest62)
            case hS62 => exact ⟨q1.cell hHeld.1 (.inr (Nat.zero_le _)), q1.cell hHeld.2 (.inr (Nat.zero_le _))⟩
            clear q1
            clear hK KK
            (try clear hHeld)
            have hHeld := hHeld2
            clear hHeld2
            (try simp only [Act.put, xa, xb, xc, xd, xe, xf])
            refine tk 3 ?_
            refine tk 4 ?_
            refine tk 5 ?_
            refine tk 7 ?_
            refine wpAnyH_ready (rs := [8]) (by kernel_rfl) (by simp) ?_
            refine AllReadyH.cons rfl (fun KK hK => ?_) ?_
            · simp only [xa, xb, xc]
              have y0 := f_g11.cell (i := 0) rfl
              have z0 := f_g11.frozen 0
              have y1 := f_g11.cell (i := 1) rfl
              have z1 := f_g11.frozen 1
              go_simp
              clear y0 z0 y1 z1
              obtain ⟨Z16_1_6_2_8, hY⟩ : ∃ V, ((Z16_1_6_2.setCell ⟨g11, 0, none⟩ (.int .i64 0)).setCell ⟨g11, 1, none⟩ (.int .i64 0)) = V := ⟨_, rfl⟩
              have qS : Out g11 (g11 + 1) Z16_1_6_2 Z16_1_6_2_8 := by rw [← hY]; exact ((Out.refl _ _ _).setCell (p := ⟨g11, 0, none⟩) (.inl ⟨Nat.le_refl _, Nat.lt_succ_self _⟩) _).setCell (p := ⟨g11, 1, none⟩) (.inl ⟨Nat.le_refl _, Nat.lt_succ_self _⟩) _
              replace f_g11 : Bl Z16_1_6_2_8 g11 #[.int .i64 0, .int .i64 0] 25 := by rw [← hY]; exact ((f_g11.set 0 (.int .i64 0)).set 1 (.int .i64 0))
              (try rw [hY])
              clear hY
              replace kL := kL.kept qS (by omega)
              replace oo := oo.past qS (by omega)
              refine hK.out _ _ ?hS67 (fun hHeld2 => ?rest67)
              case hS67 => exact ⟨qS.cell hHeld.1 (by omega), qS.cell hHeld.2 (by omega)⟩
              clear qS
              clear hK KK
              (try clear hHeld)
              have hHeld := hHeld2
              clear hHeld2
              (try simp only [Act.put, xa, xb, xc, xd, xe, xf])
              refine wpAnyH_done (by kernel_rfl) ?_ _
              exact HC g11 _ ⟨f_g11, oo⟩
            · exact AllReadyH.nil
          · exact AllReadyH.nil
        · exact AllReadyH.nil
    · refine AllReadyH.cons rfl (fun KK hK => ?_) ?_
      · simp only [xa, xb, xc]
        go_simp
        obtain ⟨g11, hgf⟩ : ∃ g, Z16.heap.size = g := ⟨_, rfl⟩
        obtain ⟨Z16_6, hY⟩ : ∃ V, Z16.alloc (.cells #[.int .i64 0, .int .i64 0] 25) = V := ⟨_, rfl⟩
        have qA : Out 0 0 Z16 Z16_6 := by rw [← hY]; exact (Out.refl 0 0 _).alloc _
        have f_g11 : Bl Z16_6 g11 #[.int .i64 0, .int .i64 0] 25 := by rw [← hY, ← hgf]; exact Bl.new _ _ _
        have hl_g11 : lim16 ≤ g11 := by rw [← hgf, ← hlm16]; exact oo.size
        (try rw [hY])
        (try rw [hgf])
        clear hY hgf
        replace kL := kL.kept qA (.inr (Nat.zero_le _))
        replace oo := oo.trans qA
        refine hK.out _ _ ?hS68 (fun hHeld2 => ?rest68)
        case hS68 => exact ⟨qA.cell hHeld.1 (.inr (Nat.zero_le _)), qA.cell hHeld.2 (.inr (Nat.zero_le _))⟩
        clear qA
        clear hK KK
        (try clear hHeld)
        have hHeld := hHeld2
        clear hHeld2
        (try simp only [Act.put, xa, xb, xc, xd, xe, xf])
        refine wpAnyH_ready (rs := [1]) (by kernel_rfl) (by simp) ?_
        refine AllReadyH.cons rfl (fun KK hK => ?_) ?_
        · simp only [xa, xb, xc]
          go_simp
          refine (ref_any 5 _).mono ?_
          rintro e Z16_6_1 ⟨rfl, q1⟩
          replace kL := kL.kept q1 (.inr (Nat.zero_le _))
          replace f_g11 := f_g11.kept q1 (.inr (Nat.zero_le _))
          replace oo := oo.trans q1
          refine hK.out _ _ ?hS69 (fun hHeld2 => ?rest69)
          case hS69 => exact ⟨q1.cell hHeld.1 (.inr (Nat.zero_le _)), q1.cell hHeld.2 (.inr (Nat.zero_le _))⟩
          clear q1
          clear hK KK
          (try clear hHeld)
          have hHeld := hHeld2
          clear hHeld2
          (try simp only [Act.put, xa, xb, xc, xd, xe, xf])
          refine wpAnyH_ready (rs := [2]) (by kernel_rfl) (by simp) ?_
          refine AllReadyH.cons rfl (fun KK hK => ?_) ?_
          · simp only [xa, xb, xc]
            go_simp
            refine (HG.out _ L 1 _ _ _ _ _ _ _ _ _ kL).mono ?_
            rintro e Z16_6_1_2 ⟨rfl, q1⟩
            replace kL := kL.kept q1 (.inr (Nat.zero_le _))
            replace f_g11 := f_g11.kept q1 (.inr (Nat.zero_le _))
            replace oo := oo.trans q1
            refine hK.out _ _ ?hS70 (fun hHeld2 => ?rest70)
            case hS70 => exact ⟨q1.cell hHeld.1 (.inr (Nat.zero_le _)), q1.cell hHeld.2 (.inr (Nat.zero_le _))⟩
            clear q1
            clear hK KK
            (try clear hHeld)
            have hHeld := hHeld2
            clear hHeld2
            (try simp only [Act.put, xa, xb, xc, xd, xe, xf])
            refine tk 3 ?_
            refine tk 4 ?_
            refine tk 5 ?_
            refine tk 7 ?_
            refine wpAnyH_ready (rs := [8]) (by kernel_rfl) (by simp) ?_
            refine AllReadyH.cons rfl (fun KK hK => ?_) ?_
            · simp only [xa, xb, xc]
              have y0 := f_g11.cell (i := 0) rfl
              have z0 := f_g11.frozen 0
              have y1 := f_g11.cell (i := 1) rfl
              have z1 := f_g11.frozen 1
              go_simp
              clear y0 z0 y1 z1
              obtain ⟨Z16_6_1_2_8, hY⟩ : ∃ V, ((Z16_6_1_2.setCell ⟨g11, 0, none⟩ (.int .i64 0)).setCell ⟨g11, 1, none⟩ (.int .i64 0)) = V := ⟨_, rfl⟩
              have qS : Out g11 (g11 + 1) Z16_6_1_2 Z16_6_1_2_8 := by rw [← hY]; exact ((Out.refl _ _ _).setCell (p := ⟨g11, 0, none⟩) (.inl ⟨Nat.le_refl _, Nat.lt_succ_self _⟩) _).setCell (p := ⟨g11, 1, none⟩) (.inl ⟨Nat.le_refl _, Nat.lt_succ_self _⟩) _
              replace f_g11 : Bl Z16_6_1_2_8 g11 #[.int .i64 0, .int .i64 0] 25 := by rw [← hY]; exact ((f_g11.set 0 (.int .i64 0)).set 1 (.int .i64 0))
              (try rw [hY])
              clear hY
              replace kL := kL.kept qS (by omega)
              replace oo := oo.past qS (by omega)
              refine hK.out _ _ ?hS75 (fun hHeld2 => ?rest75)
              case hS75 => exact ⟨qS.cell hHeld.1 (by omega), qS.cell hHeld.2 (by omega)⟩
              clear qS
              clear hK KK
              (try clear hHeld)
              have hHeld := hHeld2
              clear hHeld2
              (try simp only [Act.put, xa, xb, xc, xd, xe, xf])
              refine wpAnyH_done (by kernel_rfl) ?_ _
              exact HC g11 _ ⟨f_g11, oo⟩
            · exact AllReadyH.nil
          · exact AllReadyH.nil
        · exact AllReadyH.nil
      · exact AllReadyH.nil
  case h2 =>
    rintro g11 V1 ⟨kF, oV⟩
    refine hK _ _ ?_
    have y0 := kF.cell (i := 0) rfl
    have y1 := kF.cell (i := 1) rfl
    have HE := hid_mk (HO0.out.trans oV)
    clear kF oV g0 g1 kL
    go_wp2_with (go_at_call 11; refine (good_ok _).mono ?_; rintro e w4 ⟨rfl, o4⟩)
    go_ret
    exact ⟨rfl, HE.out.trans o4⟩
set_option maxRecDepth 100000 in
set_option maxHeartbeats 8000000 in
theorem leaves_10 {W : World} {a b : Int} (ht : Tp W) :
    Calls Tryd.prog 6 #[.int .i64 10, .int .i64 a, .int .i64 b] W fun e w' => e = .returned (.bool true) ∧ Out 0 0 W w' := by
  have HA := hid_mk (alive_any ht)
  have HG := hid_mk (fun (W1 : World) (L c : Nat) (a1 a2 a3 : Option Addr) (l1 l2 l3 c1 c2 c3 : Nat) (hL : Bl W1 L #[.int .i64 5, .int .i64 10, .slice a1 l1 c1, .slice a2 l2 c2, .slice a3 l3 c3] 42) => graph_leaf (c := c) (s := ⟨#[35, 60, 116, 97, 98, 108, 101, 62]⟩) (by decide) (by decide) hL)
  clear ht
  go_enter Tryd.func6, Tryd.ntmps6
  go_wp2_with (first
    | (go_at_call 7; refine HA.out.mono ?_; rintro e w1 ⟨rfl, o1⟩)
    | (go_at_call 12; refine (ref_any _ _).mono ?_; rintro e w2 ⟨rfl, o2⟩)
    | (go_at_call 9; refine (fix_any _ _).mono ?_; rintro e w3 ⟨rfl, o3⟩))
  rename_i u1 p1 u2 p2 K hK
  refine wp_named (fun W0 hW0 => ?_)
  obtain ⟨x1, kL⟩ : ∃ x1 : Addr, Bl W0 (w3.heap.size + 1) #[.int .i64 5, .int .i64 10, .slice (some ⟨w1.heap.size, 0, none⟩) 2 2, .slice (some x1) 2 2, .slice (some ⟨w3.heap.size, 0, none⟩) 1 1] 42 := by
    refine ⟨⟨u2.heap.size, 0, none⟩, ?_⟩
    rw [hW0]
    exact new2 _ _ _ _ _
  have kG : Bl W0 (w3.heap.size + 1 + 1) #[.slice (some ⟨w3.heap.size + 1, 0, none⟩) 1 1, .slice none 0 0] 31 := by
    rw [hW0]
    exact new3 _ _ _ _ _
  have o0 : Out 0 0 W W0 := by
    rw [hW0]
    exact (((((((o1.alloc _).trans p1).trans p2).alloc _).trans o2).trans o3).alloc _).alloc _ |>.alloc _
  obtain ⟨L, hL⟩ : ∃ l, w3.heap.size + 1 = l := ⟨_, rfl⟩
  obtain ⟨G, hG⟩ : ∃ g, L + 1 = g := ⟨_, rfl⟩
  rw [hL, hG] at kG
  rw [hL] at kL
  rw [hL, hG]
  have g0 := kG.cell (i := 0) rfl
  have g1 := kG.cell (i := 1) rfl
  have hGl := kG.lt
  have hLl := kL.lt
  have HO0 := hid_mk o0
  clear hL hG hW0 o0 kG o1 o2 o3 p1 p2
  apply cut1 (K := K) (F := fun g11 V => Bl V g11 #[.int .i64 0, .int .i64 0] 25 ∧ Out 0 0 W0 V)
  case h1 =>
    intro HC
    obtain ⟨lim16, hlm16⟩ : ∃ l, W0.heap.size = l := ⟨_, rfl⟩
    refine wp_region_held_drew (S := fun w' => w'.cell? ⟨G, 0, none⟩ = some (.slice (some ⟨L, 0, none⟩) 1 1) ∧ w'.cell? ⟨G, 1, none⟩ = some (.slice none 0 0)) (by kernel_rfl) ?hS76 (fun hHeld => ?rest76)
    case hS76 => exact ⟨g0, g1⟩
    obtain ⟨Z16, hZ⟩ : ∃ Z, W0.drew = Z := ⟨_, rfl⟩
    have oZ : Out 0 0 W0 Z16 := by rw [← hZ]; exact (Out.refl 0 0 _).drew
    have oo := oZ
    rw [hZ] at hHeld ⊢
    replace kL := kL.kept oZ (.inr (Nat.zero_le _))
    clear hZ oZ
    refine tk 0 ?_
    refine wpAnyH_ready (rs := [1, 6]) (by kernel_rfl) (by simp) ?_
    refine AllReadyH.cons rfl (fun KK hK => ?_) ?_
    · simp only [xa, xb, xc]
      go_simp
      refine (ref_any 5 _).mono ?_
      rintro e Z16_1 ⟨rfl, q1⟩
      replace kL := kL.kept q1 (.inr (Nat.zero_le _))
      replace oo := oo.trans q1
      refine hK.out _ _ ?hS78 (fun hHeld2 => ?rest78)
      case hS78 => exact ⟨q1.cell hHeld.1 (.inr (Nat.zero_le _)), q1.cell hHeld.2 (.inr (Nat.zero_le _))⟩
      clear q1
      clear hK KK
      (try clear hHeld)
      have hHeld := hHeld2
      clear hHeld2
      (try simp only [Act.put, xa, xb, xc, xd, xe, xf])
      refine wpAnyH_ready (rs := [2, 6]) (by kernel_rfl) (by simp) ?_
      refine AllReadyH.cons rfl (fun KK hK => ?_) ?_
      · simp only [xa, xb, xc]
        go_simp
        refine (HG.out _ L 1 _ _ _ _ _ _ _ _ _ kL).mono ?_
        rintro e Z16_1_2 ⟨rfl, q1⟩
        replace kL := kL.kept q1 (.inr (Nat.zero_le _))
        replace oo := oo.trans q1
        refine hK.out _ _ ?hS79 (fun hHeld2 => ?rest79)
        case hS79 => exact ⟨q1.cell hHeld.1 (.inr (Nat.zero_le _)), q1.cell hHeld.2 (.inr (Nat.zero_le _))⟩
        clear q1
        clear hK KK
        (try clear hHeld)
        have hHeld := hHeld2
        clear hHeld2
        (try simp only [Act.put, xa, xb, xc, xd, xe, xf])
        refine tk 3 ?_
        refine tk 4 ?_
        refine tk 5 ?_
        refine wpAnyH_ready (rs := [6]) (by kernel_rfl) (by simp) ?_
        refine AllReadyH.cons rfl (fun KK hK => ?_) ?_
        · simp only [xa, xb, xc]
          go_simp
          obtain ⟨g11, hgf⟩ : ∃ g, Z16_1_2.heap.size = g := ⟨_, rfl⟩
          obtain ⟨Z16_1_2_6, hY⟩ : ∃ V, Z16_1_2.alloc (.cells #[.int .i64 0, .int .i64 0] 25) = V := ⟨_, rfl⟩
          have qA : Out 0 0 Z16_1_2 Z16_1_2_6 := by rw [← hY]; exact (Out.refl 0 0 _).alloc _
          have f_g11 : Bl Z16_1_2_6 g11 #[.int .i64 0, .int .i64 0] 25 := by rw [← hY, ← hgf]; exact Bl.new _ _ _
          have hl_g11 : lim16 ≤ g11 := by rw [← hgf, ← hlm16]; exact oo.size
          (try rw [hY])
          (try rw [hgf])
          clear hY hgf
          replace kL := kL.kept qA (.inr (Nat.zero_le _))
          replace oo := oo.trans qA
          refine hK.out _ _ ?hS83 (fun hHeld2 => ?rest83)
          case hS83 => exact ⟨qA.cell hHeld.1 (.inr (Nat.zero_le _)), qA.cell hHeld.2 (.inr (Nat.zero_le _))⟩
          clear qA
          clear hK KK
          (try clear hHeld)
          have hHeld := hHeld2
          clear hHeld2
          (try simp only [Act.put, xa, xb, xc, xd, xe, xf])
          refine tk 7 ?_
          refine wpAnyH_ready (rs := [8]) (by kernel_rfl) (by simp) ?_
          refine AllReadyH.cons rfl (fun KK hK => ?_) ?_
          · simp only [xa, xb, xc]
            have y0 := f_g11.cell (i := 0) rfl
            have z0 := f_g11.frozen 0
            have y1 := f_g11.cell (i := 1) rfl
            have z1 := f_g11.frozen 1
            go_simp
            clear y0 z0 y1 z1
            obtain ⟨Z16_1_2_6_8, hY⟩ : ∃ V, ((Z16_1_2_6.setCell ⟨g11, 0, none⟩ (.int .i64 0)).setCell ⟨g11, 1, none⟩ (.int .i64 0)) = V := ⟨_, rfl⟩
            have qS : Out g11 (g11 + 1) Z16_1_2_6 Z16_1_2_6_8 := by rw [← hY]; exact ((Out.refl _ _ _).setCell (p := ⟨g11, 0, none⟩) (.inl ⟨Nat.le_refl _, Nat.lt_succ_self _⟩) _).setCell (p := ⟨g11, 1, none⟩) (.inl ⟨Nat.le_refl _, Nat.lt_succ_self _⟩) _
            replace f_g11 : Bl Z16_1_2_6_8 g11 #[.int .i64 0, .int .i64 0] 25 := by rw [← hY]; exact ((f_g11.set 0 (.int .i64 0)).set 1 (.int .i64 0))
            (try rw [hY])
            clear hY
            replace kL := kL.kept qS (by omega)
            replace oo := oo.past qS (by omega)
            refine hK.out _ _ ?hS85 (fun hHeld2 => ?rest85)
            case hS85 => exact ⟨qS.cell hHeld.1 (by omega), qS.cell hHeld.2 (by omega)⟩
            clear qS
            clear hK KK
            (try clear hHeld)
            have hHeld := hHeld2
            clear hHeld2
            (try simp only [Act.put, xa, xb, xc, xd, xe, xf])
            refine wpAnyH_done (by kernel_rfl) ?_ _
            exact HC g11 _ ⟨f_g11, oo⟩
          · exact AllReadyH.nil
        · exact AllReadyH.nil
      · refine AllReadyH.cons rfl (fun KK hK => ?_) ?_
        · simp only [xa, xb, xc]
          go_simp
          obtain ⟨g11, hgf⟩ : ∃ g, Z16_1.heap.size = g := ⟨_, rfl⟩
          obtain ⟨Z16_1_6, hY⟩ : ∃ V, Z16_1.alloc (.cells #[.int .i64 0, .int .i64 0] 25) = V := ⟨_, rfl⟩
          have qA : Out 0 0 Z16_1 Z16_1_6 := by rw [← hY]; exact (Out.refl 0 0 _).alloc _
          have f_g11 : Bl Z16_1_6 g11 #[.int .i64 0, .int .i64 0] 25 := by rw [← hY, ← hgf]; exact Bl.new _ _ _
          have hl_g11 : lim16 ≤ g11 := by rw [← hgf, ← hlm16]; exact oo.size
          (try rw [hY])
          (try rw [hgf])
          clear hY hgf
          replace kL := kL.kept qA (.inr (Nat.zero_le _))
          replace oo := oo.trans qA
          refine hK.out _ _ ?hS86 (fun hHeld2 => ?rest86)
          case hS86 => exact ⟨qA.cell hHeld.1 (.inr (Nat.zero_le _)), qA.cell hHeld.2 (.inr (Nat.zero_le _))⟩
          clear qA
          clear hK KK
          (try clear hHeld)
          have hHeld := hHeld2
          clear hHeld2
          (try simp only [Act.put, xa, xb, xc, xd, xe, xf])
          refine wpAnyH_ready (rs := [2]) (by kernel_rfl) (by simp) ?_
          refine AllReadyH.cons rfl (fun KK hK => ?_) ?_
          · simp only [xa, xb, xc]
            go_simp
            refine (HG.out _ L 1 _ _ _ _ _ _ _ _ _ kL).mono ?_
            rintro e Z16_1_6_2 ⟨rfl, q1⟩
            replace kL := kL.kept q1 (.inr (Nat.zero_le _))
            replace f_g11 := f_g11.kept q1 (.inr (Nat.zero_le _))
            replace oo := oo.trans q1
            refine hK.out _ _ ?hS87 (fun hHeld2 => ?rest87)
            case hS87 => exact ⟨q1.cell hHeld.1 (.inr (Nat.zero_le _)), q1.cell hHeld.2 (.inr (Nat.zero_le _))⟩
            clear q1
            clear hK KK
            (try clear hHeld)
            have hHeld := hHeld2
            clear hHeld2
            (try simp only [Act.put, xa, xb, xc, xd, xe, xf])
            refine tk 3 ?_
            refine tk 4 ?_
            refine tk 5 ?_
            refine tk 7 ?_
            refine wpAnyH_ready (rs := [8]) (by kernel_rfl) (by simp) ?_
            refine AllReadyH.cons rfl (fun KK hK => ?_) ?_
            · simp only [xa, xb, xc]
              have y0 := f_g11.cell (i := 0) rfl
              have z0 := f_g11.frozen 0
              have y1 := f_g11.cell (i := 1) rfl
              have z1 := f_g11.frozen 1
              go_simp
              clear y0 z0 y1 z1
              obtain ⟨Z16_1_6_2_8, hY⟩ : ∃ V, ((Z16_1_6_2.setCell ⟨g11, 0, none⟩ (.int .i64 0)).setCell ⟨g11, 1, none⟩ (.int .i64 0)) = V := ⟨_, rfl⟩
              have qS : Out g11 (g11 + 1) Z16_1_6_2 Z16_1_6_2_8 := by rw [← hY]; exact ((Out.refl _ _ _).setCell (p := ⟨g11, 0, none⟩) (.inl ⟨Nat.le_refl _, Nat.lt_succ_self _⟩) _).setCell (p := ⟨g11, 1, none⟩) (.inl ⟨Nat.le_refl _, Nat.lt_succ_self _⟩) _
              replace f_g11 : Bl Z16_1_6_2_8 g11 #[.int .i64 0, .int .i64 0] 25 := by rw [← hY]; exact ((f_g11.set 0 (.int .i64 0)).set 1 (.int .i64 0))
              (try rw [hY])
              clear hY
              replace kL := kL.kept qS (by omega)
              replace oo := oo.past qS (by omega)
              refine hK.out _ _ ?hS92 (fun hHeld2 => ?rest92)
              case hS92 => exact ⟨qS.cell hHeld.1 (by omega), qS.cell hHeld.2 (by omega)⟩
              clear qS
              clear hK KK
              (try clear hHeld)
              have hHeld := hHeld2
              clear hHeld2
              (try simp only [Act.put, xa, xb, xc, xd, xe, xf])
              refine wpAnyH_done (by kernel_rfl) ?_ _
              exact HC g11 _ ⟨f_g11, oo⟩
            · exact AllReadyH.nil
          · exact AllReadyH.nil
        · exact AllReadyH.nil
    · refine AllReadyH.cons rfl (fun KK hK => ?_) ?_
      · simp only [xa, xb, xc]
        go_simp
        obtain ⟨g11, hgf⟩ : ∃ g, Z16.heap.size = g := ⟨_, rfl⟩
        obtain ⟨Z16_6, hY⟩ : ∃ V, Z16.alloc (.cells #[.int .i64 0, .int .i64 0] 25) = V := ⟨_, rfl⟩
        have qA : Out 0 0 Z16 Z16_6 := by rw [← hY]; exact (Out.refl 0 0 _).alloc _
        have f_g11 : Bl Z16_6 g11 #[.int .i64 0, .int .i64 0] 25 := by rw [← hY, ← hgf]; exact Bl.new _ _ _
        have hl_g11 : lim16 ≤ g11 := by rw [← hgf, ← hlm16]; exact oo.size
        (try rw [hY])
        (try rw [hgf])
        clear hY hgf
        replace kL := kL.kept qA (.inr (Nat.zero_le _))
        replace oo := oo.trans qA
        refine hK.out _ _ ?hS93 (fun hHeld2 => ?rest93)
        case hS93 => exact ⟨qA.cell hHeld.1 (.inr (Nat.zero_le _)), qA.cell hHeld.2 (.inr (Nat.zero_le _))⟩
        clear qA
        clear hK KK
        (try clear hHeld)
        have hHeld := hHeld2
        clear hHeld2
        (try simp only [Act.put, xa, xb, xc, xd, xe, xf])
        refine wpAnyH_ready (rs := [1]) (by kernel_rfl) (by simp) ?_
        refine AllReadyH.cons rfl (fun KK hK => ?_) ?_
        · simp only [xa, xb, xc]
          go_simp
          refine (ref_any 5 _).mono ?_
          rintro e Z16_6_1 ⟨rfl, q1⟩
          replace kL := kL.kept q1 (.inr (Nat.zero_le _))
          replace f_g11 := f_g11.kept q1 (.inr (Nat.zero_le _))
          replace oo := oo.trans q1
          refine hK.out _ _ ?hS94 (fun hHeld2 => ?rest94)
          case hS94 => exact ⟨q1.cell hHeld.1 (.inr (Nat.zero_le _)), q1.cell hHeld.2 (.inr (Nat.zero_le _))⟩
          clear q1
          clear hK KK
          (try clear hHeld)
          have hHeld := hHeld2
          clear hHeld2
          (try simp only [Act.put, xa, xb, xc, xd, xe, xf])
          refine wpAnyH_ready (rs := [2]) (by kernel_rfl) (by simp) ?_
          refine AllReadyH.cons rfl (fun KK hK => ?_) ?_
          · simp only [xa, xb, xc]
            go_simp
            refine (HG.out _ L 1 _ _ _ _ _ _ _ _ _ kL).mono ?_
            rintro e Z16_6_1_2 ⟨rfl, q1⟩
            replace kL := kL.kept q1 (.inr (Nat.zero_le _))
            replace f_g11 := f_g11.kept q1 (.inr (Nat.zero_le _))
            replace oo := oo.trans q1
            refine hK.out _ _ ?hS95 (fun hHeld2 => ?rest95)
            case hS95 => exact ⟨q1.cell hHeld.1 (.inr (Nat.zero_le _)), q1.cell hHeld.2 (.inr (Nat.zero_le _))⟩
            clear q1
            clear hK KK
            (try clear hHeld)
            have hHeld := hHeld2
            clear hHeld2
            (try simp only [Act.put, xa, xb, xc, xd, xe, xf])
            refine tk 3 ?_
            refine tk 4 ?_
            refine tk 5 ?_
            refine tk 7 ?_
            refine wpAnyH_ready (rs := [8]) (by kernel_rfl) (by simp) ?_
            refine AllReadyH.cons rfl (fun KK hK => ?_) ?_
            · simp only [xa, xb, xc]
              have y0 := f_g11.cell (i := 0) rfl
              have z0 := f_g11.frozen 0
              have y1 := f_g11.cell (i := 1) rfl
              have z1 := f_g11.frozen 1
              go_simp
              clear y0 z0 y1 z1
              obtain ⟨Z16_6_1_2_8, hY⟩ : ∃ V, ((Z16_6_1_2.setCell ⟨g11, 0, none⟩ (.int .i64 0)).setCell ⟨g11, 1, none⟩ (.int .i64 0)) = V := ⟨_, rfl⟩
              have qS : Out g11 (g11 + 1) Z16_6_1_2 Z16_6_1_2_8 := by rw [← hY]; exact ((Out.refl _ _ _).setCell (p := ⟨g11, 0, none⟩) (.inl ⟨Nat.le_refl _, Nat.lt_succ_self _⟩) _).setCell (p := ⟨g11, 1, none⟩) (.inl ⟨Nat.le_refl _, Nat.lt_succ_self _⟩) _
              replace f_g11 : Bl Z16_6_1_2_8 g11 #[.int .i64 0, .int .i64 0] 25 := by rw [← hY]; exact ((f_g11.set 0 (.int .i64 0)).set 1 (.int .i64 0))
              (try rw [hY])
              clear hY
              replace kL := kL.kept qS (by omega)
              replace oo := oo.past qS (by omega)
              refine hK.out _ _ ?hS100 (fun hHeld2 => ?rest100)
              case hS100 => exact ⟨qS.cell hHeld.1 (by omega), qS.cell hHeld.2 (by omega)⟩
              clear qS
              clear hK KK
              (try clear hHeld)
              have hHeld := hHeld2
              clear hHeld2
              (try simp only [Act.put, xa, xb, xc, xd, xe, xf])
              refine wpAnyH_done (by kernel_rfl) ?_ _
              exact HC g11 _ ⟨f_g11, oo⟩
            · exact AllReadyH.nil
          · exact AllReadyH.nil
        · exact AllReadyH.nil
      · exact AllReadyH.nil
  case h2 =>
    rintro g11 V1 ⟨kF, oV⟩
    refine hK _ _ ?_
    have y0 := kF.cell (i := 0) rfl
    have y1 := kF.cell (i := 1) rfl
    have HE := hid_mk (HO0.out.trans oV)
    clear kF oV g0 g1 kL
    go_wp2_with (go_at_call 11; refine (good_ok _).mono ?_; rintro e w4 ⟨rfl, o4⟩)
    go_ret
    exact ⟨rfl, HE.out.trans o4⟩
set_option maxRecDepth 100000 in
set_option maxHeartbeats 8000000 in
theorem leaves_11 {W : World} {a b : Int} (ht : Tp W) :
    Calls Tryd.prog 6 #[.int .i64 11, .int .i64 a, .int .i64 b] W fun e w' => e = .returned (.bool true) ∧ Out 0 0 W w' := by
  have HA := hid_mk (alive_any ht)
  have HG := hid_mk (fun (W1 : World) (L c : Nat) (a1 a2 a3 : Option Addr) (l1 l2 l3 c1 c2 c3 : Nat) (hL : Bl W1 L #[.int .i64 5, .int .i64 11, .slice a1 l1 c1, .slice a2 l2 c2, .slice a3 l3 c3] 42) => graph_leaf (c := c) (s := ⟨#[35, 60, 102, 114, 97, 109, 101, 62]⟩) (by decide) (by decide) hL)
  clear ht
  go_enter Tryd.func6, Tryd.ntmps6
  go_wp2_with (first
    | (go_at_call 7; refine HA.out.mono ?_; rintro e w1 ⟨rfl, o1⟩)
    | (go_at_call 12; refine (ref_any _ _).mono ?_; rintro e w2 ⟨rfl, o2⟩)
    | (go_at_call 9; refine (fix_any _ _).mono ?_; rintro e w3 ⟨rfl, o3⟩))
  rename_i u1 p1 u2 p2 K hK
  refine wp_named (fun W0 hW0 => ?_)
  obtain ⟨x1, kL⟩ : ∃ x1 : Addr, Bl W0 (w3.heap.size + 1) #[.int .i64 5, .int .i64 11, .slice (some ⟨w1.heap.size, 0, none⟩) 2 2, .slice (some x1) 2 2, .slice (some ⟨w3.heap.size, 0, none⟩) 1 1] 42 := by
    refine ⟨⟨u2.heap.size, 0, none⟩, ?_⟩
    rw [hW0]
    exact new2 _ _ _ _ _
  have kG : Bl W0 (w3.heap.size + 1 + 1) #[.slice (some ⟨w3.heap.size + 1, 0, none⟩) 1 1, .slice none 0 0] 31 := by
    rw [hW0]
    exact new3 _ _ _ _ _
  have o0 : Out 0 0 W W0 := by
    rw [hW0]
    exact (((((((o1.alloc _).trans p1).trans p2).alloc _).trans o2).trans o3).alloc _).alloc _ |>.alloc _
  obtain ⟨L, hL⟩ : ∃ l, w3.heap.size + 1 = l := ⟨_, rfl⟩
  obtain ⟨G, hG⟩ : ∃ g, L + 1 = g := ⟨_, rfl⟩
  rw [hL, hG] at kG
  rw [hL] at kL
  rw [hL, hG]
  have g0 := kG.cell (i := 0) rfl
  have g1 := kG.cell (i := 1) rfl
  have hGl := kG.lt
  have hLl := kL.lt
  have HO0 := hid_mk o0
  clear hL hG hW0 o0 kG o1 o2 o3 p1 p2
  apply cut1 (K := K) (F := fun g11 V => Bl V g11 #[.int .i64 0, .int .i64 0] 25 ∧ Out 0 0 W0 V)
  case h1 =>
    intro HC
    obtain ⟨lim16, hlm16⟩ : ∃ l, W0.heap.size = l := ⟨_, rfl⟩
    refine wp_region_held_drew (S := fun w' => w'.cell? ⟨G, 0, none⟩ = some (.slice (some ⟨L, 0, none⟩) 1 1) ∧ w'.cell? ⟨G, 1, none⟩ = some (.slice none 0 0)) (by kernel_rfl) ?hS101 (fun hHeld => ?rest101)
    case hS101 => exact ⟨g0, g1⟩
    obtain ⟨Z16, hZ⟩ : ∃ Z, W0.drew = Z := ⟨_, rfl⟩
    have oZ : Out 0 0 W0 Z16 := by rw [← hZ]; exact (Out.refl 0 0 _).drew
    have oo := oZ
    rw [hZ] at hHeld ⊢
    replace kL := kL.kept oZ (.inr (Nat.zero_le _))
    clear hZ oZ
    refine tk 0 ?_
    refine wpAnyH_ready (rs := [1, 6]) (by kernel_rfl) (by simp) ?_
    refine AllReadyH.cons rfl (fun KK hK => ?_) ?_
    · simp only [xa, xb, xc]
      go_simp
      refine (ref_any 5 _).mono ?_
      rintro e Z16_1 ⟨rfl, q1⟩
      replace kL := kL.kept q1 (.inr (Nat.zero_le _))
      replace oo := oo.trans q1
      refine hK.out _ _ ?hS103 (fun hHeld2 => ?rest103)
      case hS103 => exact ⟨q1.cell hHeld.1 (.inr (Nat.zero_le _)), q1.cell hHeld.2 (.inr (Nat.zero_le _))⟩
      clear q1
      clear hK KK
      (try clear hHeld)
      have hHeld := hHeld2
      clear hHeld2
      (try simp only [Act.put, xa, xb, xc, xd, xe, xf])
      refine wpAnyH_ready (rs := [2, 6]) (by kernel_rfl) (by simp) ?_
      refine AllReadyH.cons rfl (fun KK hK => ?_) ?_
      · simp only [xa, xb, xc]
        go_simp
        refine (HG.out _ L 1 _ _ _ _ _ _ _ _ _ kL).mono ?_
        rintro e Z16_1_2 ⟨rfl, q1⟩
        replace kL := kL.kept q1 (.inr (Nat.zero_le _))
        replace oo := oo.trans q1
        refine hK.out _ _ ?hS104 (fun hHeld2 => ?rest104)
        case hS104 => exact ⟨q1.cell hHeld.1 (.inr (Nat.zero_le _)), q1.cell hHeld.2 (.inr (Nat.zero_le _))⟩
        clear q1
        clear hK KK
        (try clear hHeld)
        have hHeld := hHeld2
        clear hHeld2
        (try simp only [Act.put, xa, xb, xc, xd, xe, xf])
        refine tk 3 ?_
        refine tk 4 ?_
        refine tk 5 ?_
        refine wpAnyH_ready (rs := [6]) (by kernel_rfl) (by simp) ?_
        refine AllReadyH.cons rfl (fun KK hK => ?_) ?_
        · simp only [xa, xb, xc]
          go_simp
          obtain ⟨g11, hgf⟩ : ∃ g, Z16_1_2.heap.size = g := ⟨_, rfl⟩
          obtain ⟨Z16_1_2_6, hY⟩ : ∃ V, Z16_1_2.alloc (.cells #[.int .i64 0, .int .i64 0] 25) = V := ⟨_, rfl⟩
          have qA : Out 0 0 Z16_1_2 Z16_1_2_6 := by rw [← hY]; exact (Out.refl 0 0 _).alloc _
          have f_g11 : Bl Z16_1_2_6 g11 #[.int .i64 0, .int .i64 0] 25 := by rw [← hY, ← hgf]; exact Bl.new _ _ _
          have hl_g11 : lim16 ≤ g11 := by rw [← hgf, ← hlm16]; exact oo.size
          (try rw [hY])
          (try rw [hgf])
          clear hY hgf
          replace kL := kL.kept qA (.inr (Nat.zero_le _))
          replace oo := oo.trans qA
          refine hK.out _ _ ?hS108 (fun hHeld2 => ?rest108)
          case hS108 => exact ⟨qA.cell hHeld.1 (.inr (Nat.zero_le _)), qA.cell hHeld.2 (.inr (Nat.zero_le _))⟩
          clear qA
          clear hK KK
          (try clear hHeld)
          have hHeld := hHeld2
          clear hHeld2
          (try simp only [Act.put, xa, xb, xc, xd, xe, xf])
          refine tk 7 ?_
          refine wpAnyH_ready (rs := [8]) (by kernel_rfl) (by simp) ?_
          refine AllReadyH.cons rfl (fun KK hK => ?_) ?_
          · simp only [xa, xb, xc]
            have y0 := f_g11.cell (i := 0) rfl
            have z0 := f_g11.frozen 0
            have y1 := f_g11.cell (i := 1) rfl
            have z1 := f_g11.frozen 1
            go_simp
            clear y0 z0 y1 z1
            obtain ⟨Z16_1_2_6_8, hY⟩ : ∃ V, ((Z16_1_2_6.setCell ⟨g11, 0, none⟩ (.int .i64 0)).setCell ⟨g11, 1, none⟩ (.int .i64 0)) = V := ⟨_, rfl⟩
            have qS : Out g11 (g11 + 1) Z16_1_2_6 Z16_1_2_6_8 := by rw [← hY]; exact ((Out.refl _ _ _).setCell (p := ⟨g11, 0, none⟩) (.inl ⟨Nat.le_refl _, Nat.lt_succ_self _⟩) _).setCell (p := ⟨g11, 1, none⟩) (.inl ⟨Nat.le_refl _, Nat.lt_succ_self _⟩) _
            replace f_g11 : Bl Z16_1_2_6_8 g11 #[.int .i64 0, .int .i64 0] 25 := by rw [← hY]; exact ((f_g11.set 0 (.int .i64 0)).set 1 (.int .i64 0))
            (try rw [hY])
            clear hY
            replace kL := kL.kept qS (by omega)
            replace oo := oo.past qS (by omega)
            refine hK.out _ _ ?hS110 (fun hHeld2 => ?rest110)
            case hS110 => exact ⟨qS.cell hHeld.1 (by omega), qS.cell hHeld.2 (by omega)⟩
            clear qS
            clear hK KK
            (try clear hHeld)
            have hHeld := hHeld2
            clear hHeld2
            (try simp only [Act.put, xa, xb, xc, xd, xe, xf])
            refine wpAnyH_done (by kernel_rfl) ?_ _
            exact HC g11 _ ⟨f_g11, oo⟩
          · exact AllReadyH.nil
        · exact AllReadyH.nil
      · refine AllReadyH.cons rfl (fun KK hK => ?_) ?_
        · simp only [xa, xb, xc]
          go_simp
          obtain ⟨g11, hgf⟩ : ∃ g, Z16_1.heap.size = g := ⟨_, rfl⟩
          obtain ⟨Z16_1_6, hY⟩ : ∃ V, Z16_1.alloc (.cells #[.int .i64 0, .int .i64 0] 25) = V := ⟨_, rfl⟩
          have qA : Out 0 0 Z16_1 Z16_1_6 := by rw [← hY]; exact (Out.refl 0 0 _).alloc _
          have f_g11 : Bl Z16_1_6 g11 #[.int .i64 0, .int .i64 0] 25 := by rw [← hY, ← hgf]; exact Bl.new _ _ _
          have hl_g11 : lim16 ≤ g11 := by rw [← hgf, ← hlm16]; exact oo.size
          (try rw [hY])
          (try rw [hgf])
          clear hY hgf
          replace kL := kL.kept qA (.inr (Nat.zero_le _))
          replace oo := oo.trans qA
          refine hK.out _ _ ?hS111 (fun hHeld2 => ?rest111)
          case hS111 => exact ⟨qA.cell hHeld.1 (.inr (Nat.zero_le _)), qA.cell hHeld.2 (.inr (Nat.zero_le _))⟩
          clear qA
          clear hK KK
          (try clear hHeld)
          have hHeld := hHeld2
          clear hHeld2
          (try simp only [Act.put, xa, xb, xc, xd, xe, xf])
          refine wpAnyH_ready (rs := [2]) (by kernel_rfl) (by simp) ?_
          refine AllReadyH.cons rfl (fun KK hK => ?_) ?_
          · simp only [xa, xb, xc]
            go_simp
            refine (HG.out _ L 1 _ _ _ _ _ _ _ _ _ kL).mono ?_
            rintro e Z16_1_6_2 ⟨rfl, q1⟩
            replace kL := kL.kept q1 (.inr (Nat.zero_le _))
            replace f_g11 := f_g11.kept q1 (.inr (Nat.zero_le _))
            replace oo := oo.trans q1
            refine hK.out _ _ ?hS112 (fun hHeld2 => ?rest112)
            case hS112 => exact ⟨q1.cell hHeld.1 (.inr (Nat.zero_le _)), q1.cell hHeld.2 (.inr (Nat.zero_le _))⟩
            clear q1
            clear hK KK
            (try clear hHeld)
            have hHeld := hHeld2
            clear hHeld2
            (try simp only [Act.put, xa, xb, xc, xd, xe, xf])
            refine tk 3 ?_
            refine tk 4 ?_
            refine tk 5 ?_
            refine tk 7 ?_
            refine wpAnyH_ready (rs := [8]) (by kernel_rfl) (by simp) ?_
            refine AllReadyH.cons rfl (fun KK hK => ?_) ?_
            · simp only [xa, xb, xc]
              have y0 := f_g11.cell (i := 0) rfl
              have z0 := f_g11.frozen 0
              have y1 := f_g11.cell (i := 1) rfl
              have z1 := f_g11.frozen 1
              go_simp
              clear y0 z0 y1 z1
              obtain ⟨Z16_1_6_2_8, hY⟩ : ∃ V, ((Z16_1_6_2.setCell ⟨g11, 0, none⟩ (.int .i64 0)).setCell ⟨g11, 1, none⟩ (.int .i64 0)) = V := ⟨_, rfl⟩
              have qS : Out g11 (g11 + 1) Z16_1_6_2 Z16_1_6_2_8 := by rw [← hY]; exact ((Out.refl _ _ _).setCell (p := ⟨g11, 0, none⟩) (.inl ⟨Nat.le_refl _, Nat.lt_succ_self _⟩) _).setCell (p := ⟨g11, 1, none⟩) (.inl ⟨Nat.le_refl _, Nat.lt_succ_self _⟩) _
              replace f_g11 : Bl Z16_1_6_2_8 g11 #[.int .i64 0, .int .i64 0] 25 := by rw [← hY]; exact ((f_g11.set 0 (.int .i64 0)).set 1 (.int .i64 0))
              (try rw [hY])
              clear hY
              replace kL := kL.kept qS (by omega)
              replace oo := oo.past qS (by omega)
              refine hK.out _ _ ?hS117 (fun hHeld2 => ?rest117)
              case hS117 => exact ⟨qS.cell hHeld.1 (by omega), qS.cell hHeld.2 (by omega)⟩
              clear qS
              clear hK KK
              (try clear hHeld)
              have hHeld := hHeld2
              clear hHeld2
              (try simp only [Act.put, xa, xb, xc, xd, xe, xf])
              refine wpAnyH_done (by kernel_rfl) ?_ _
              exact HC g11 _ ⟨f_g11, oo⟩
            · exact AllReadyH.nil
          · exact AllReadyH.nil
        · exact AllReadyH.nil
    · refine AllReadyH.cons rfl (fun KK hK => ?_) ?_
      · simp only [xa, xb, xc]
        go_simp
        obtain ⟨g11, hgf⟩ : ∃ g, Z16.heap.size = g := ⟨_, rfl⟩
        obtain ⟨Z16_6, hY⟩ : ∃ V, Z16.alloc (.cells #[.int .i64 0, .int .i64 0] 25) = V := ⟨_, rfl⟩
        have qA : Out 0 0 Z16 Z16_6 := by rw [← hY]; exact (Out.refl 0 0 _).alloc _
        have f_g11 : Bl Z16_6 g11 #[.int .i64 0, .int .i64 0] 25 := by rw [← hY, ← hgf]; exact Bl.new _ _ _
        have hl_g11 : lim16 ≤ g11 := by rw [← hgf, ← hlm16]; exact oo.size
        (try rw [hY])
        (try rw [hgf])
        clear hY hgf
        replace kL := kL.kept qA (.inr (Nat.zero_le _))
        replace oo := oo.trans qA
        refine hK.out _ _ ?hS118 (fun hHeld2 => ?rest118)
        case hS118 => exact ⟨qA.cell hHeld.1 (.inr (Nat.zero_le _)), qA.cell hHeld.2 (.inr (Nat.zero_le _))⟩
        clear qA
        clear hK KK
        (try clear hHeld)
        have hHeld := hHeld2
        clear hHeld2
        (try simp only [Act.put, xa, xb, xc, xd, xe, xf])
        refine wpAnyH_ready (rs := [1]) (by kernel_rfl) (by simp) ?_
        refine AllReadyH.cons rfl (fun KK hK => ?_) ?_
        · simp only [xa, xb, xc]
          go_simp
          refine (ref_any 5 _).mono ?_
          rintro e Z16_6_1 ⟨rfl, q1⟩
          replace kL := kL.kept q1 (.inr (Nat.zero_le _))
          replace f_g11 := f_g11.kept q1 (.inr (Nat.zero_le _))
          replace oo := oo.trans q1
          refine hK.out _ _ ?hS119 (fun hHeld2 => ?rest119)
          case hS119 => exact ⟨q1.cell hHeld.1 (.inr (Nat.zero_le _)), q1.cell hHeld.2 (.inr (Nat.zero_le _))⟩
          clear q1
          clear hK KK
          (try clear hHeld)
          have hHeld := hHeld2
          clear hHeld2
          (try simp only [Act.put, xa, xb, xc, xd, xe, xf])
          refine wpAnyH_ready (rs := [2]) (by kernel_rfl) (by simp) ?_
          refine AllReadyH.cons rfl (fun KK hK => ?_) ?_
          · simp only [xa, xb, xc]
            go_simp
            refine (HG.out _ L 1 _ _ _ _ _ _ _ _ _ kL).mono ?_
            rintro e Z16_6_1_2 ⟨rfl, q1⟩
            replace kL := kL.kept q1 (.inr (Nat.zero_le _))
            replace f_g11 := f_g11.kept q1 (.inr (Nat.zero_le _))
            replace oo := oo.trans q1
            refine hK.out _ _ ?hS120 (fun hHeld2 => ?rest120)
            case hS120 => exact ⟨q1.cell hHeld.1 (.inr (Nat.zero_le _)), q1.cell hHeld.2 (.inr (Nat.zero_le _))⟩
            clear q1
            clear hK KK
            (try clear hHeld)
            have hHeld := hHeld2
            clear hHeld2
            (try simp only [Act.put, xa, xb, xc, xd, xe, xf])
            refine tk 3 ?_
            refine tk 4 ?_
            refine tk 5 ?_
            refine tk 7 ?_
            refine wpAnyH_ready (rs := [8]) (by kernel_rfl) (by simp) ?_
            refine AllReadyH.cons rfl (fun KK hK => ?_) ?_
            · simp only [xa, xb, xc]
              have y0 := f_g11.cell (i := 0) rfl
              have z0 := f_g11.frozen 0
              have y1 := f_g11.cell (i := 1) rfl
              have z1 := f_g11.frozen 1
              go_simp
              clear y0 z0 y1 z1
              obtain ⟨Z16_6_1_2_8, hY⟩ : ∃ V, ((Z16_6_1_2.setCell ⟨g11, 0, none⟩ (.int .i64 0)).setCell ⟨g11, 1, none⟩ (.int .i64 0)) = V := ⟨_, rfl⟩
              have qS : Out g11 (g11 + 1) Z16_6_1_2 Z16_6_1_2_8 := by rw [← hY]; exact ((Out.refl _ _ _).setCell (p := ⟨g11, 0, none⟩) (.inl ⟨Nat.le_refl _, Nat.lt_succ_self _⟩) _).setCell (p := ⟨g11, 1, none⟩) (.inl ⟨Nat.le_refl _, Nat.lt_succ_self _⟩) _
              replace f_g11 : Bl Z16_6_1_2_8 g11 #[.int .i64 0, .int .i64 0] 25 := by rw [← hY]; exact ((f_g11.set 0 (.int .i64 0)).set 1 (.int .i64 0))
              (try rw [hY])
              clear hY
              replace kL := kL.kept qS (by omega)
              replace oo := oo.past qS (by omega)
              refine hK.out _ _ ?hS125 (fun hHeld2 => ?rest125)
              case hS125 => exact ⟨qS.cell hHeld.1 (by omega), qS.cell hHeld.2 (by omega)⟩
              clear qS
              clear hK KK
              (try clear hHeld)
              have hHeld := hHeld2
              clear hHeld2
              (try simp only [Act.put, xa, xb, xc, xd, xe, xf])
              refine wpAnyH_done (by kernel_rfl) ?_ _
              exact HC g11 _ ⟨f_g11, oo⟩
            · exact AllReadyH.nil
          · exact AllReadyH.nil
        · exact AllReadyH.nil
      · exact AllReadyH.nil
  case h2 =>
    rintro g11 V1 ⟨kF, oV⟩
    refine hK _ _ ?_
    have y0 := kF.cell (i := 0) rfl
    have y1 := kF.cell (i := 1) rfl
    have HE := hid_mk (HO0.out.trans oV)
    clear kF oV g0 g1 kL
    go_wp2_with (go_at_call 11; refine (good_ok _).mono ?_; rintro e w4 ⟨rfl, o4⟩)
    go_ret
    exact ⟨rfl, HE.out.trans o4⟩
theorem leaves_any {W : World} {k a b : Int} (ht : Tp W) :
    Calls Tryd.prog 6 #[.int .i64 k, .int .i64 a, .int .i64 b] W fun e w' => e = .returned (.bool true) ∧ Out 0 0 W w' := by
  by_cases h7 : k = 7
  · subst h7; exact leaves_7 ht
  by_cases h8 : k = 8
  · subst h8; exact leaves_8 ht
  by_cases h9 : k = 9
  · subst h9; exact leaves_9 ht
  by_cases h10 : k = 10
  · subst h10; exact leaves_10 ht
  by_cases h11 : k = 11
  · subst h11; exact leaves_11 ht
  exact leaves_other ht h7 h8 h9 h10 h11
end Go.Proofs.YtkgdignpjammbaaDoor
