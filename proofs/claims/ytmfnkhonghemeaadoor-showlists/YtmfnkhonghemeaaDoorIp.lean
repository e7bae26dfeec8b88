/- package show: what a leaf holds, how it is told -/
import Derived.Test.YtmfnkhonghemeaaDoorIo
namespace Go.Proofs.YtmfnkhonghemeaaDoor
open Go.RowKit
set_option linter.unusedVariables false
set_option linter.unusedSimpArgs false

/-- the text of a kind that tells nothing of what it holds -/
def opaque_ (k : Int) : Option ByteArray :=
  if k = 7 then some ⟨#[35, 60, 99, 111, 110, 116, 105, 110, 117, 97, 116, 105, 111, 110, 62]⟩
  else if k = 8 then some ⟨#[35, 60, 119, 101, 97, 107, 62]⟩
  else if k = 9 then some ⟨#[35, 60, 101, 112, 104, 101, 109, 101, 114, 111, 110, 62]⟩
  else if k = 10 then some ⟨#[35, 60, 116, 97, 98, 108, 101, 62]⟩
  else if k = 11 then some ⟨#[35, 60, 102, 114, 97, 109, 101, 62]⟩
  else none
theorem opaque_cases {k : Int} {s : ByteArray} (h : opaque_ k = some s) : (k = 7 ∧ s = ⟨#[35, 60, 99, 111, 110, 116, 105, 110, 117, 97, 116, 105, 111, 110, 62]⟩) ∨ (k = 8 ∧ s = ⟨#[35, 60, 119, 101, 97, 107, 62]⟩) ∨ (k = 9 ∧ s = ⟨#[35, 60, 101, 112, 104, 101, 109, 101, 114, 111, 110, 62]⟩) ∨ (k = 10 ∧ s = ⟨#[35, 60, 116, 97, 98, 108, 101, 62]⟩) ∨ (k = 11 ∧ s = ⟨#[35, 60, 102, 114, 97, 109, 101, 62]⟩) := by
  unfold opaque_ at h
  split at h
  · cases h; exact .inl ⟨by assumption, rfl⟩
  split at h
  · cases h; exact .inr (.inl ⟨by assumption, rfl⟩)
  split at h
  · cases h; exact .inr (.inr (.inl ⟨by assumption, rfl⟩))
  split at h
  · cases h; exact .inr (.inr (.inr (.inl ⟨by assumption, rfl⟩)))
  split at h
  · cases h; exact .inr (.inr (.inr (.inr ⟨by assumption, rfl⟩)))
  · cases h
set_option maxRecDepth 100000 in
set_option maxHeartbeats 2000000 in
theorem leaf_told {W : World} {i k : Int} {a1 a2 a3 : Option Addr} {l1 l2 l3 c1 c2 c3 : Nat} {s : ByteArray} (hk : opaque_ k = some s) :
    Calls Tryd.prog 38 #[.agg #[.int .i64 i, .int .i64 k, .slice a1 l1 c1, .slice a2 l2 c2, .slice a3 l3 c3]] W fun e w' => e = .returned (.string s) ∧ Out 0 0 W w' := by
  have x1 := (Bl.new W #[.int .i64 i, .int .i64 k, .slice a1 l1 c1, .slice a2 l2 c2, .slice a3 l3 c3] 34).cell (i := 1) rfl
  have o1 : Out 0 0 W (W.alloc (.cells #[.int .i64 i, .int .i64 k, .slice a1 l1 c1, .slice a2 l2 c2, .slice a3 l3 c3] 34)) := (Out.refl _ _ _).alloc _
  have HO := hid_mk o1
  clear o1
  rcases opaque_cases hk with ⟨rfl, rfl⟩ | ⟨rfl, rfl⟩ | ⟨rfl, rfl⟩ | ⟨rfl, rfl⟩ | ⟨rfl, rfl⟩
  all_goals
    clear hk
    go_enter Tryd.func38, Tryd.ntmps38
    go_wp2_with fail
    go_ret
    exact ⟨rfl, HO.out⟩
theorem make_none (w : World) : (Instr.makeSlice 24 (.int .i64 0) (.int .i64 0)).run Tryd.prog w = .ok (.slice (some ⟨w.heap.size, 0, none⟩) 0 0) (w.alloc (.cells #[] 28)) := by kernel_rfl
theorem copy_none (a b : Option Addr) (c l c' : Nat) (w : World) : (Builtin.copy_ #[24, 24] 3 #[.slice a 0 c, .slice b l c']).run Tryd.prog w = .ok (.int .i64 0) w := by
  unfold Builtin.copy_
  cases b <;> cases a <;> simp [go_sem, Tryd.underlying24, storeCells, Result.andThen]
set_option maxRecDepth 100000 in
set_option maxHeartbeats 2000000 in
theorem held_none {W : World} {i k : Int} {a1 a2 a3 : Option Addr} {l1 l2 l3 c1 c2 c3 : Nat} (h1 : k ≠ 1) (h2 : k ≠ 2) (h3 : k ≠ 3) :
    Calls Tryd.prog 37 #[.agg #[.int .i64 i, .int .i64 k, .slice a1 l1 c1, .slice a2 l2 c2, .slice a3 l3 c3]] W fun e w' => (∃ a c, e = .returned (.slice a 0 c)) ∧ Out 0 0 W w' := by
  have k1 : (k == 1) = false := by simpa using h1
  have k2 : (k == 2) = false := by simpa using h2
  have k3 : (k == 3) = false := by simpa using h3
  have b1 := Bl.new W #[.int .i64 i, .int .i64 k, .slice a1 l1 c1, .slice a2 l2 c2, .slice a3 l3 c3] 34
  have x1 := b1.cell (i := 1) rfl
  have x3 := b1.cell (i := 3) rfl
  clear b1
  have hm := make_none
  have hcp := copy_none
  go_enter Tryd.func37, Tryd.ntmps37
  go_wp2_with fail
  refine wp_loop_once ?_
  go_wp2_with fail
  go_ret
  exact ⟨⟨_, _, rfl⟩, ((Out.refl _ _ _).alloc _).alloc _⟩
theorem container_no {W : World} {a : Addr} {k : Int} (h1 : k ≠ 1) (h2 : k ≠ 2) (h3 : k ≠ 3) (hc : W.cell? a = some (.int .i64 k)) :
    Calls Tryd.prog 18 #[.pointer (some a)] W fun e w' => e = .returned (.bool false) ∧ w' = W := by
  have k1 : (k == 1) = false := by simpa using h1
  have k2 : (k == 2) = false := by simpa using h2
  have k3 : (k == 3) = false := by simpa using h3
  go_enter Tryd.func18, Tryd.ntmps18
  go_wp2_with fail
  go_ret
  exact ⟨rfl, rfl⟩
end Go.Proofs.YtmfnkhonghemeaaDoor
