/- package show: a leaf's label, its text -/
import Derived.Test.YtmfnkhonghemeaaDoorIv
namespace Go.Proofs.YtmfnkhonghemeaaDoor
open Go.RowKit
set_option linter.unusedVariables false
set_option linter.unusedSimpArgs false

theorem th_at {k : Int} {ah : Option Addr} {ch : Nat} {s : ByteArray} {cur : Array Value} (h : ∀ (j : Nat) (u : Value), (thC k ah ch s)[j]? = some u → cur[j]? = some u) : cur[0]? = some (.int .i64 k) ∧ cur[2]? = some (.string s) ∧ cur[4]? = some (.int .i64 1) ∧ cur[5]? = some (.int .i64 0) :=
  ⟨h 0 _ rfl, h 2 _ rfl, h 4 _ rfl, h 5 _ rfl⟩
set_option maxRecDepth 100000 in
set_option maxHeartbeats 2000000 in
theorem label_leaf {W : World} {p g cap : Nat} {hv mv : Value} {n k : Int} {s : ByteArray} {cur : Array Value} (h1 : k ≠ 1) (h2 : k ≠ 2) (h3 : k ≠ 3) (h : WK W p hv mv (.slice (some ⟨g, 0, none⟩) 1 cap) n) (hg : Bl W g cur 68)
    (c0 : cur[0]? = some (.int .i64 k)) (c2 : cur[2]? = some (.string s)) (c5 : ∃ v, cur[5]? = some v) (hpg : p ≠ g) :
    Calls Tryd.prog 14 #[.pointer (some ⟨p, 0, none⟩)] W fun e w' => (∃ v, e = .returned v) ∧ WK w' p hv mv (.slice (some ⟨g, 0, none⟩) 1 cap) n ∧ Bl w' g (cur.setIfInBounds 5 (.int .i64 (-1))) 68 ∧ Out g (g + 1) W w' := by
  obtain ⟨v5, c5⟩ := c5
  have p2 := h.cell (i := 2) rfl
  have e5 := hg.cell c5
  have f5 := hg.frozen 5
  have hs := hg.set 5 (.int .i64 (-1))
  have o1 : Out g (g + 1) W (W.setCell ⟨g, 5, none⟩ (.int .i64 (-1))) := (Out.refl _ _ _).setCell (p := ⟨g, 5, none⟩) (.inl ⟨Nat.le_refl _, Nat.lt_succ_self _⟩) _
  have kW := h.kept o1 (by omega)
  have q2 := kW.cell (i := 2) rfl
  have e0 : (W.setCell ⟨g, 5, none⟩ (.int .i64 (-1))).cell? ⟨g, 0, none⟩ = some (.int .i64 k) := hs.cell (by rw [Array.getElem?_setIfInBounds_ne (by decide)]; exact c0)
  have HC := hid_mk (container_no h1 h2 h3 e0)
  have HE := hid_mk (And.intro kW (And.intro hs o1))
  clear h hg hs o1 kW h1 h2 h3 c0 c2 c5 e0
  go_enter Tryd.func14, Tryd.ntmps14
  go_wp2_with fail
  refine wp_loop_rounds 2 ?_
  rw [rounds_succ]
  go_wp2_with (go_at_call 18; refine calls_same HC.out ?_)
  rw [rounds_succ]
  go_wp2_with fail
  exact bodyPost_end (results_none Tryd.results14 _ _ _) rfl ⟨⟨_, rfl⟩, HE.out.1, HE.out.2.1, HE.out.2.2⟩
set_option maxRecDepth 100000 in
set_option maxHeartbeats 2000000 in
theorem thing_at {W : World} {p mb g cap : Nat} {hv : Value} {n x : Int} {f0 : Int → Option Value} (h : WK W p hv (.map (some mb)) (.slice (some ⟨g, 0, none⟩) 1 cap) n) (hm : MpAt W mb f0) (hf : f0 x = some (.int .i64 0)) :
    Calls Tryd.prog 26 #[.pointer (some ⟨p, 0, none⟩), .agg #[.int .i64 2, .int .i64 x]] W fun e w' => e = .returned (.pointer (some ⟨g, 0, none⟩)) ∧ Out 0 0 W w' := by
  have o1 : Out 0 0 W (W.alloc (.cells #[.int .i64 2, .int .i64 x] 28)) := (Out.refl _ _ _).alloc _
  have kW := h.kept o1 (.inr (Nat.zero_le _))
  have p1 := kW.cell (i := 1) rfl
  have p2 := kW.cell (i := 2) rfl
  have kV := Bl.new W #[.int .i64 2, .int .i64 x] 28
  have x1 := kV.cell (i := 1) rfl
  have lk := mp_look (w := (W.alloc (.cells #[.int .i64 2, .int .i64 x] 28)).drew) false Tryd.underlying43 Tryd.underlying3 (zero_int _) (show MpAt (W.alloc (.cells #[.int .i64 2, .int .i64 x] 28)).drew mb f0 from hm.kept o1 (.inr (Nat.zero_le _))) x
  rw [hf] at lk
  simp only [Option.getD_some, Bool.false_eq_true, if_false] at lk
  have hl := h.lt
  have r1 := h.cell (i := 1) rfl
  have r2 := h.cell (i := 2) rfl
  clear hm hf kW kV h
  go_enter Tryd.func26, Tryd.ntmps26
  go_wp2_with fail
  go_region
  all_goals go_wp2
  all_goals go_ret
  all_goals exact ⟨rfl, o1.drew⟩
end Go.Proofs.YtmfnkhonghemeaaDoor
