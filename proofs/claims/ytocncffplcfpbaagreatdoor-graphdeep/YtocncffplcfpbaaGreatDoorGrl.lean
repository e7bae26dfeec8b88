/- slices.Sort of one thing; slices.Clone -/
import Derived.Test.YtocncffplcfpbaaGreatDoorGrk
import Derived.OwnWalk
namespace Go.Proofs.YtocncffplcfpbaaGreatDoor
open Go.RowKit
set_option linter.unusedVariables false
set_option linter.unusedSimpArgs false

set_option maxRecDepth 100000 in
set_option maxHeartbeats 4000000 in
theorem len64_one (w : World) : Calls Tryz.prog 78 #[.int .u64 1] w fun e w' => (∃ v, e = .returned (.int .i64 v)) ∧ w' = w := by
  go_enter Tryz.func78, Tryz.ntmps78
  go_wp2
  go_ret
  exact ⟨⟨_, rfl⟩, rfl⟩
theorem len_one (w : World) : Calls Tryz.prog 52 #[.int .u64 1] w fun e w' => (∃ v, e = .returned (.int .i64 v)) ∧ w' = w := by
  go_enter Tryz.func52, Tryz.ntmps52
  go_wp2_with fail
  refine (len64_one _).mono ?_
  rintro e w1 ⟨⟨v, rfl⟩, rfl⟩
  go_wp2_with fail
  go_ret
  exact ⟨⟨_, rfl⟩, rfl⟩
set_option maxHeartbeats 4000000 in
theorem insertion_one (w : World) (a : Option Addr) (c : Nat) : Calls Tryz.prog 68 #[.slice a 1 c, .int .i64 0, .int .i64 1] w fun e w' => e = .returned (.tuple #[]) ∧ w' = w := by
  go_enter Tryz.func68, Tryz.ntmps68
  go_wp2_with fail
  go_loopw [6] (fun c wr => c = .int .i64 1 ∧ wr = w) (fun _ _ => 0)
  case atStart => exact ⟨rfl, rfl⟩
  case round =>
    obtain ⟨rfl, rfl⟩ := hrel
    go_wp2_with fail
    exact bodyPost_end (results_none Tryz.results68 _ _ _) rfl ⟨rfl, rfl⟩
set_option maxRecDepth 100000 in
set_option maxHeartbeats 4000000 in
theorem pdq_one (w : World) (a : Option Addr) (c : Nat) (l : Int) : Calls Tryz.prog 51 #[.slice a 1 c, .int .i64 0, .int .i64 1, .int .i64 l] w fun e w' => e = .returned (.tuple #[]) ∧ w' = w := by
  go_enter Tryz.func51, Tryz.ntmps51
  go_wp2_with fail
  go_loopw [1, 2, 3, 8, 9] (fun c1 c2 _ _ _ wr => c1 = .int .i64 0 ∧ c2 = .int .i64 1 ∧ wr = w) (fun _ _ _ _ _ _ => 0)
  case atStart => exact ⟨rfl, rfl, rfl⟩
  case round =>
    obtain ⟨rfl, rfl, rfl⟩ := hrel
    go_wp2_with (go_at_call 68; refine calls_same (insertion_one _ _ _) ?_)
    exact bodyPost_ret (results_none Tryz.results51 _ _ _) rfl ⟨rfl, rfl⟩
theorem sort_one (w : World) (a : Option Addr) (c : Nat) : Calls Tryz.prog 28 #[.slice a 1 c] w fun e w' => e = .returned (.tuple #[]) ∧ w' = w := by
  go_enter Tryz.func28, Tryz.ntmps28
  go_wp2_with fail
  refine (len_one _).mono ?_
  rintro e w1 ⟨⟨v, rfl⟩, rfl⟩
  go_wp2_with (go_at_call 51; refine calls_same (pdq_one _ _ _ _) ?_)
  exact bodyPost_end (results_none Tryz.results28 _ _ _) rfl ⟨rfl, rfl⟩
theorem sl_eq (w : World) : (binOp .eql 29 (.slice none 0 0) (.slice none 0 0)).run Tryz.prog w = .ok (.bool true) w := by kernel_rfl
theorem sl_ne (a : Addr) (n c : Nat) (w : World) : (binOp .eql 24 (.slice (some a) n c) (.slice none 0 0)).run Tryz.prog w = .ok (.bool false) w := by kernel_rfl
set_option maxRecDepth 100000 in
set_option maxHeartbeats 4000000 in
theorem clone_nil (w : World) : Calls Tryz.prog 46 #[.slice none 0 0] w fun e w' => e = .returned (.slice none 0 0) ∧ w' = w := by
  have hq := sl_eq
  go_enter Tryz.func46, Tryz.ntmps46
  go_wp2_with fail
  go_ret
  exact ⟨rfl, rfl⟩
theorem info_v : (Tryz.prog.info? 28).map (fun i => (i.zero, i.size, i.bytes)) = some (some (.agg #[.int .i64 0, .int .i64 0]), 2, 16) := by kernel_rfl
def vcs (l : List (Int × Int)) : List Value := l.flatMap fun v => [.int .i64 v.1, .int .i64 v.2]
theorem vcs_len (l : List (Int × Int)) : (vcs l).length = l.length * 2 := by
  induction l with
  | nil => rfl
  | cons a l ih => show ([Value.int .i64 a.1, .int .i64 a.2] ++ vcs l).length = _; rw [List.length_append, ih]; simp; omega
theorem vcs_one {l : List (Int × Int)} : ∀ u ∈ vcs l, u.oneCell' = true := by
  intro u hu
  unfold vcs at hu
  rw [List.mem_flatMap] at hu
  obtain ⟨v, _, hu⟩ := hu
  simp at hu
  rcases hu with rfl | rfl <;> rfl
theorem vcs_at : ∀ {l : List (Int × Int)} {j : Nat} {u : Value}, (vcs l)[j]? = some u → ∃ i v, l[i]? = some v ∧ ((j = i * 2 ∧ u = .int .i64 v.1) ∨ (j = i * 2 + 1 ∧ u = .int .i64 v.2))
  | [], j, u, h => by simp [vcs] at h
  | a :: l, 0, u, h => ⟨0, a, rfl, .inl ⟨rfl, by simp [vcs] at h; exact h.symm⟩⟩
  | a :: l, 1, u, h => ⟨0, a, rfl, .inr ⟨rfl, by simp [vcs] at h; exact h.symm⟩⟩
  | a :: l, j + 2, u, h => by
    have h2 : (vcs l)[j]? = some u := by simpa [vcs] using h
    obtain ⟨i, v, hi, hu⟩ := vcs_at h2
    rcases hu with ⟨h3, h4⟩ | ⟨h3, h4⟩
    · exact ⟨i + 1, v, by simpa using hi, .inl ⟨by omega, h4⟩⟩
    · exact ⟨i + 1, v, by simpa using hi, .inr ⟨by omega, h4⟩⟩
theorem app_st {ops : Array Oper} {rest : List Oper} {o : Oper} {ac : Go.Act} {w : World} {Q : Exit → Go.Act → World → Prop} (hgd : o.guard = none) (sx xx : Operand) (T T' : TypeId)
    (ho : o.op = .call { callee := .builtin .append, args := #[sx, xx], argTypes := #[T, T'] }) {v u v' : Value} {w' : World} (hs : ac.eval sx = v) (hxx : ac.eval xx = u)
    (hr : (Builtin.append_ #[T, T'] o.type #[v, u]).run Tryz.prog w = .ok v' w') (h : wpList Tryz.prog ops Q rest (ac.put o.dst v') w') : wpList Tryz.prog ops Q (o :: rest) ac w :=
  wpList_plain hgd fun _ hK' => by
    unfold Oper.wp execOp
    simp only [ho, resolve, invoke, builtin, Sem.run_bind, Sem.run_pure, Result.andThen_ok, List.map_toArray, List.map_cons, List.map_nil, hs, hxx, hr]
    exact hK' _ _ h
theorem own_zero (w : World) (E : TypeId) (sz : Nat) : (w.alloc (.cells #[] E)).ownsRow w.heap.size E sz (.slice (some ⟨w.heap.size, 0, none⟩) 0 0) 0 [] :=
  ⟨by simp, .inr ⟨w.heap.size, 0, #[], rfl, Nat.le_refl _, Bl.new w #[] E, Nat.le_refl _, by decide, by simp, by simp⟩⟩
set_option maxRecDepth 100000 in
set_option maxHeartbeats 4000000 in
theorem clone_vs {w : World} {gf off n c : Nat} {l : List (Int × Int)} (hl : l.length = n) (hn : 0 < n) (hn2 : n ≤ 1000000) (hv : VsAt w (some ⟨gf, off, none⟩) l) :
    Calls Tryz.prog 24 #[.slice (some ⟨gf, off, none⟩) n c] w fun e w' => ∃ b cap, e = .returned (.slice (some ⟨b, 0, none⟩) n cap) ∧ Out 0 0 w w' ∧ w.heap.size ≤ b := by
  have hq := sl_ne
  have oE : Out 0 0 w (w.alloc (.cells #[] 28)) := (Out.refl 0 0 w).alloc _
  obtain ⟨a', cap', Z, q1, q2, q3, q4⟩ := app_at (w := w.alloc (.cells #[] 28)) Tryz.underlying24 info_v rfl (by decide) (by decide) (c := c) (ys := vcs l) (own_zero w 28 2) (by rw [size_alloc]; omega) (.inr ⟨gf, off, rfl, fun j u hj => by
    rcases hv with h0 | ⟨g', off', hg', hc⟩
    · subst h0; simp at hl; omega
    · cases hg'
      obtain ⟨i, v, hi, hu⟩ := vcs_at hj
      rcases hu with ⟨rfl, rfl⟩ | ⟨rfl, rfl⟩
      · exact oE.cell (hc i v hi).1 (.inr (Nat.zero_le _))
      · have := oE.cell (hc i v hi).2 (.inr (Nat.zero_le _))
        rwa [Nat.add_assoc] at this⟩) (by rw [vcs_len, hl]) vcs_one (by omega) (by omega) 24
  obtain ⟨b, cur, rfl, hb, -⟩ := own_cellsX q2 (by omega)
  have HE : Hid (Out 0 0 w Z ∧ w.heap.size ≤ b) := hid_mk ⟨((Fx.of_out (S := fun _ => False) oE).then q3 (fun k h1 h2 => by simp [Value.ownBlock] at h2; omega)).out (fun _ _ q => q), hb⟩
  rw [Nat.zero_add] at q1
  have HR := hid_mk q1
  clear q1 q2 q3 q4 hb oE hl hv
  go_enter Tryz.func24, Tryz.ntmps24
  go_wp2_with (at_builtin; refine app_st rfl _ _ _ _ rfl rfl rfl HR.out ?_)
  go_ret
  exact ⟨b, cap', rfl, HE.out⟩
end Go.Proofs.YtocncffplcfpbaaGreatDoor
