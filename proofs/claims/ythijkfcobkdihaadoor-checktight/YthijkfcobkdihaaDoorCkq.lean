/- package check: a wrong place is caught -/
import Derived.Test.YthijkfcobkdihaaDoorCkp
namespace Go.Proofs.YthijkfcobkdihaaDoor
open Go.RowKit
set_option linter.unusedVariables false
set_option linter.unusedSimpArgs false

theorem ccaught_nil (w : World) : Calls Tryd.prog 37 #[.nilIface] w fun e w' => e = .returned (.tuple #[.int .i64 0, .int .i64 0, .int .i64 0]) ∧ w' = w := by
  go_enter Tryd.func37, Tryd.ntmps37
  go_wp2
  go_ret3
  exact ⟨rfl, rfl⟩
theorem ccaught_stop (er f i : Int) (w : World) : Calls Tryd.prog 37 #[.iface 103 (.agg #[.int .i64 er, .int .i64 f, .int .i64 i])] w fun e w' => e = .returned (.tuple #[.int .i64 f, .int .i64 i, .int .i64 er]) ∧ Out 0 0 w w' := by
  have HO := hid_mk (((Out.refl 0 0 w).alloc (.cells #[.int .i64 er, .int .i64 f, .int .i64 i] 103)).drew)
  have h2 : ∀ W, (Instr.typeAssert (.iface 103 (.agg #[.int .i64 er, .int .i64 f, .int .i64 i])) 20 103 true).run Tryd.prog W = .ok (.tuple #[.agg #[.int .i64 er, .int .i64 f, .int .i64 i], .bool true]) W := fun W => by kernel_rfl
  go_enter Tryd.func37, Tryd.ntmps37
  go_wp2
  go_region
  go_wp2
  go_ret3
  exact ⟨rfl, HO.out⟩
theorem set3 {w : World} {g : Nat} {x1 x2 x3 : Int} (h1 : Bl w g #[.int .i64 x1] 3) (h2 : Bl w (g + 1) #[.int .i64 x2] 3) (h3 : Bl w (g + 1 + 1) #[.int .i64 x3] 24) (y1 y2 y3 : Int) :
    Bl (((w.setCell ⟨g, 0, none⟩ (.int .i64 y1)).setCell ⟨g + 1, 0, none⟩ (.int .i64 y2)).setCell ⟨g + 1 + 1, 0, none⟩ (.int .i64 y3)) g #[.int .i64 y1] 3 ∧ Bl (((w.setCell ⟨g, 0, none⟩ (.int .i64 y1)).setCell ⟨g + 1, 0, none⟩ (.int .i64 y2)).setCell ⟨g + 1 + 1, 0, none⟩ (.int .i64 y3)) (g + 1) #[.int .i64 y2] 3 ∧
    Bl (((w.setCell ⟨g, 0, none⟩ (.int .i64 y1)).setCell ⟨g + 1, 0, none⟩ (.int .i64 y2)).setCell ⟨g + 1 + 1, 0, none⟩ (.int .i64 y3)) (g + 1 + 1) #[.int .i64 y3] 24 ∧ Out g (g + 3) w (((w.setCell ⟨g, 0, none⟩ (.int .i64 y1)).setCell ⟨g + 1, 0, none⟩ (.int .i64 y2)).setCell ⟨g + 1 + 1, 0, none⟩ (.int .i64 y3)) := by
  refine ⟨((h1.set 0 _).other (q := ⟨g + 1, 0, none⟩) (by show g + 1 ≠ g; omega) _).other (q := ⟨g + 1 + 1, 0, none⟩) (by show g + 1 + 1 ≠ g; omega) _, ((h2.other (q := ⟨g, 0, none⟩) (by show g ≠ g + 1; omega) _).set 0 _).other (q := ⟨g + 1 + 1, 0, none⟩) (by show g + 1 + 1 ≠ g + 1; omega) _, ((h3.other (q := ⟨g, 0, none⟩) (by show g ≠ g + 1 + 1; omega) _).other (q := ⟨g + 1, 0, none⟩) (by show g + 1 ≠ g + 1 + 1; omega) _).set 0 _, ?_⟩
  exact (((Out.refl g (g + 3) w).setCell (p := ⟨g, 0, none⟩) (.inl ⟨Nat.le_refl _, by show g < g + 3; omega⟩) _).setCell (p := ⟨g + 1, 0, none⟩) (.inl ⟨by show g ≤ g + 1; omega, by show g + 1 < g + 3; omega⟩) _).setCell (p := ⟨g + 1 + 1, 0, none⟩) (.inl ⟨by show g ≤ g + 1 + 1; omega, by show g + 1 + 1 < g + 3; omega⟩) _
theorem catchK_idle {g : Nat} {x1 x2 x3 : Int} {w : World} (h1 : Bl w g #[.int .i64 x1] 3) (h2 : Bl w (g + 1) #[.int .i64 x2] 3) (h3 : Bl w (g + 1 + 1) #[.int .i64 x3] 24) :
    CallsD Tryd.prog 36 #[.pointer (some ⟨g, 0, none⟩), .pointer (some ⟨g + 1, 0, none⟩), .pointer (some ⟨g + 1 + 1, 0, none⟩)] .returning w fun e u' w' => e = .returned (.tuple #[]) ∧ u' = .returning ∧ Bl w' g #[.int .i64 0] 3 ∧ Bl w' (g + 1) #[.int .i64 0] 3 ∧ Bl w' (g + 1 + 1) #[.int .i64 0] 24 ∧ Out g (g + 3) w w' := by
  refine callsD_of_wpS Tryd.func36 rfl fun c₀ cs hu => ?_
  apply wpS_region
  simp [wpOpsS, go_sem, recoverD, hu, Tryd.ntmps36, Exit.thenS]
  refine calls_same (ccaught_nil w) ?_
  have a1 := h1.cell (i := 0) rfl
  have a2 := h1.frozen 0
  have hs := set3 h1 h2 h3 0 0 0
  have b := h2.other (q := ⟨g, 0, none⟩) (by show g ≠ g + 1; omega) (.int .i64 0)
  have b1 := b.cell (i := 0) rfl
  have b2 := b.frozen 0
  have c := (h3.other (q := ⟨g, 0, none⟩) (by show g ≠ g + 1 + 1; omega) (.int .i64 0)).other (q := ⟨g + 1, 0, none⟩) (by show g + 1 ≠ g + 1 + 1; omega) (.int .i64 0)
  have c1 := c.cell (i := 0) rfl
  have c2 := c.frozen 0
  simp [go_sem, storeCells, a1, a2, b1, b2, c1, c2, bodyPostS, results, Tryd.results36]
  cases c₀
  simp_all
set_option maxHeartbeats 1000000 in
theorem catchK_stop {g : Nat} {x1 x2 x3 er f i : Int} {older : List PanicEntry} {w : World} (h1 : Bl w g #[.int .i64 x1] 3) (h2 : Bl w (g + 1) #[.int .i64 x2] 3) (h3 : Bl w (g + 1 + 1) #[.int .i64 x3] 24) :
    CallsD Tryd.prog 36 #[.pointer (some ⟨g, 0, none⟩), .pointer (some ⟨g + 1, 0, none⟩), .pointer (some ⟨g + 1 + 1, 0, none⟩)] (.panicking (badP er f i :: older)) w fun e u' w' => e = .returned (.tuple #[]) ∧ u' = .panicking ({ v := .iface 103 (.agg #[.int .i64 er, .int .i64 f, .int .i64 i]), recovered := true } :: older) ∧ Bl w' g #[.int .i64 f] 3 ∧ Bl w' (g + 1) #[.int .i64 i] 3 ∧ Bl w' (g + 1 + 1) #[.int .i64 er] 24 ∧ Out g (g + 3) w w' := by
  have HF : Hid (∀ w1, Out 0 0 w w1 → (w1.cell? ⟨g, 0, none⟩ = some (.int .i64 x1) ∧ w1.frozen? ⟨g, 0, none⟩ = false) ∧ ((w1.setCell ⟨g, 0, none⟩ (.int .i64 f)).cell? ⟨g + 1, 0, none⟩ = some (.int .i64 x2) ∧ (w1.setCell ⟨g, 0, none⟩ (.int .i64 f)).frozen? ⟨g + 1, 0, none⟩ = false) ∧ (((w1.setCell ⟨g, 0, none⟩ (.int .i64 f)).setCell ⟨g + 1, 0, none⟩ (.int .i64 i)).cell? ⟨g + 1 + 1, 0, none⟩ = some (.int .i64 x3) ∧ ((w1.setCell ⟨g, 0, none⟩ (.int .i64 f)).setCell ⟨g + 1, 0, none⟩ (.int .i64 i)).frozen? ⟨g + 1 + 1, 0, none⟩ = false) ∧
      Bl (((w1.setCell ⟨g, 0, none⟩ (.int .i64 f)).setCell ⟨g + 1, 0, none⟩ (.int .i64 i)).setCell ⟨g + 1 + 1, 0, none⟩ (.int .i64 er)) g #[.int .i64 f] 3 ∧ Bl (((w1.setCell ⟨g, 0, none⟩ (.int .i64 f)).setCell ⟨g + 1, 0, none⟩ (.int .i64 i)).setCell ⟨g + 1 + 1, 0, none⟩ (.int .i64 er)) (g + 1) #[.int .i64 i] 3 ∧ Bl (((w1.setCell ⟨g, 0, none⟩ (.int .i64 f)).setCell ⟨g + 1, 0, none⟩ (.int .i64 i)).setCell ⟨g + 1 + 1, 0, none⟩ (.int .i64 er)) (g + 1 + 1) #[.int .i64 er] 24 ∧ Out g (g + 3) w (((w1.setCell ⟨g, 0, none⟩ (.int .i64 f)).setCell ⟨g + 1, 0, none⟩ (.int .i64 i)).setCell ⟨g + 1 + 1, 0, none⟩ (.int .i64 er))) := hid_mk fun w1 o1 => by
    have k1 := h1.kept o1 (.inr (Nat.zero_le _))
    have k2 := h2.kept o1 (.inr (Nat.zero_le _))
    have k3 := h3.kept o1 (.inr (Nat.zero_le _))
    obtain ⟨s1, s2, s3, s4⟩ := set3 k1 k2 k3 f i er
    have b := k2.other (q := ⟨g, 0, none⟩) (by show g ≠ g + 1; omega) (.int .i64 f)
    have c := (k3.other (q := ⟨g, 0, none⟩) (by show g ≠ g + 1 + 1; omega) (.int .i64 f)).other (q := ⟨g + 1, 0, none⟩) (by show g + 1 ≠ g + 1 + 1; omega) (.int .i64 i)
    exact ⟨⟨k1.cell (i := 0) rfl, k1.frozen 0⟩, ⟨b.cell (i := 0) rfl, b.frozen 0⟩, ⟨c.cell (i := 0) rfl, c.frozen 0⟩, s1, s2, s3, (o1.any g (g + 3)).trans s4⟩
  clear h1 h2 h3
  refine callsD_of_wpS Tryd.func36 rfl fun c₀ cs hu => ?_
  apply wpS_region
  unfold badP at hu
  simp [wpOpsS, go_sem, recoverD, hu, Tryd.ntmps36, Exit.thenS]
  refine (ccaught_stop er f i w).mono ?_
  rintro e' w1 ⟨rfl, o1⟩
  have hF := HF.out w1 o1
  have a1 := hF.1.1
  have a2 := hF.1.2
  have b1 := hF.2.1.1
  have b2 := hF.2.1.2
  have c1 := hF.2.2.1.1
  have c2 := hF.2.2.1.2
  simp [go_sem, storeCells, a1, a2, b1, b2, c1, c2, bodyPostS, results, Tryd.results36]
  exact hF.2.2.2
end Go.Proofs.YthijkfcobkdihaaDoor
