/- the law's own: num, good, fix, alive -/
import Derived.Test.YtmfnkhonghemeaaDoorIg
namespace Go.Proofs.YtmfnkhonghemeaaDoor
open Go.RowKit
set_option linter.unusedVariables false
set_option linter.unusedSimpArgs false

theorem num_any (n : Int) (w : World) : Calls Tryd.prog 11 #[.int .i64 n] w fun e w' => e = .returned (.int .i64 n) ∧ w' = w := by
  go_enter Tryd.func11, Tryd.ntmps11
  go_wp2
  go_ret
  exact ⟨rfl, rfl⟩
theorem good_ok (w : World) : Calls Tryd.prog 9 #[.agg #[.int .i64 0, .int .i64 0]] w fun e w' => e = .returned (.bool true) ∧ Out 0 0 w w' := by
  have b1 := Bl.new w #[.int .i64 0, .int .i64 0] 38
  have x0 := b1.cell (i := 0) rfl
  have x1 := b1.cell (i := 1) rfl
  clear b1
  go_enter Tryd.func9, Tryd.ntmps9
  go_wp2_with (go_at_call 11; refine calls_same (num_any _ _) ?_)
  go_ret
  exact ⟨rfl, (Out.refl _ _ _).alloc _⟩
theorem fix_any (n : Int) (w : World) : Calls Tryd.prog 7 #[.int .i64 n] w fun e w' => e = .returned (.agg #[.int .i64 1, .int .i64 n]) ∧ Out 0 0 w w' := by
  go_enter Tryd.func7, Tryd.ntmps7
  go_wp2
  exact retVal_v Tryd.results7 rfl rfl (Bl.new w #[.int .i64 1, .int .i64 n] 28) ⟨rfl, (Out.refl _ _ _).alloc _⟩
theorem itoa_m7 : Lib.itoa (-7) = [45, 55] := by
  have := Lib.itoa_neg 7 (by decide)
  rw [Lib.decDigits_one (by decide)] at this
  exact this
set_option maxHeartbeats 1000000 in
theorem alive_any {W : World} (ht : Tp W) : Calls Tryd.prog 4 #[] W fun e w' => e = .returned (.bool true) ∧ Out 0 0 W w' := by
  have HT := hid_mk ht
  clear ht
  have h7 := hid_mk (graph_fix (n := -7) HT.out (by decide))
  rw [itoa_m7] at h7
  go_enter Tryd.func4, Tryd.ntmps4
  go_wp2_with (first
    | (go_at_call 8; refine h7.out.mono ?_; rintro e w2 ⟨rfl, o2⟩; have fN := Bl.new w2 #[.int .i64 0, .int .i64 0] 38; have y0 := fN.cell (i := 0) rfl; have y1 := fN.cell (i := 1) rfl; have HO2 := hid_mk (o2.alloc (.cells #[.int .i64 0, .int .i64 0] 38)); clear fN o2)
    | (go_at_call 9; refine (good_ok _).mono ?_; rintro e w3 ⟨rfl, o3⟩))
  go_ret
  exact ⟨rfl, HO2.out.trans o3⟩
end Go.Proofs.YtmfnkhonghemeaaDoor
