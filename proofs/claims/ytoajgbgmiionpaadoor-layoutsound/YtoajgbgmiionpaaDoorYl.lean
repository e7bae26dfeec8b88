/- LayoutSound, the walk -/
import Derived.Test.YtoajgbgmiionpaaDoorYk
namespace Go.Proofs.YtoajgbgmiionpaaDoor
open Go.RowKit
set_option linter.unusedVariables false
set_option linter.unusedSimpArgs false

theorem sound_pre2 {b b' fv : Bool} {v v' n : Int} (h : (b = false ∧ v = 0) ∨ (b = true ∧ fv = true ∧ 1 ≤ v ∧ v ≤ 1024 ∧ (b' = false ∨ (b' = true ∧ (n ≤ 0 ∨ (0 < n ∧ v' ≤ v)))))) :
    (b = false ∧ v = 0) ∨ (b = true ∧ fv = true ∧ Hid (1 ≤ v ∧ v ≤ 1024) ∧ decide (0 < v) = true ∧ decide (1024 < v) = false ∧ decide (v < 1) = false ∧ (b' = false ∨ (b' = true ∧ decide (0 < n) = false) ∨ (b' = true ∧ decide (0 < n) = true ∧ decide (v < v') = false))) := by
  rcases h with h | ⟨h1, h2, h3, h4, h5⟩
  · exact .inl h
  · refine .inr ⟨h1, h2, ⟨h3, h4⟩, by simp; omega, by simp; omega, by simp; omega, ?_⟩
    rcases h5 with h | ⟨h, h' | ⟨h', h''⟩⟩
    · exact .inl h
    · exact .inr (.inl ⟨h, by simp; omega⟩)
    · exact .inr (.inr ⟨h, by simp; omega, by simp; omega⟩)
/-- what LayoutSound's calls answer -/
structure Snd (k n n' s : Int) (b b' fv vb nb f : Bool) (v v' : Int) (l : List Nat) : Prop where
  size : ∀ w, Tab w → Calls Tryd.prog 18 #[.int .i64 k, .int .i64 n] w fun e w' => e = .returned (.tuple #[.int .i64 v, .bool b]) ∧ w' = w
  size' : ∀ w, Tab w → Calls Tryd.prog 18 #[.int .i64 k, .int .i64 n'] w fun e w' => e = .returned (.tuple #[.int .i64 v', .bool b']) ∧ w' = w
  vis : ∀ w, Calls Tryd.prog 20 #[.int .i64 k] w fun e w' => e = .returned (.bool vb) ∧ w' = w
  num : ∀ w, Calls Tryd.prog 21 #[.int .i64 k] w fun e w' => e = .returned (.bool nb) ∧ w' = w
  fitv : ∀ w, Tab w → (1 ≤ v ∧ v ≤ 1024) → Calls Tryd.prog 19 #[.int .i64 k, .int .i64 v] w fun e w' => e = .returned (.bool fv) ∧ w' = w
  fit : ∀ w, Tab w → Calls Tryd.prog 19 #[.int .i64 k, .int .i64 s] w fun e w' => e = .returned (.bool f) ∧ w' = w
  fld : ∀ w, Tab w → Calls Tryd.prog 13 #[.int .i64 k, .int .i64 s] w fun e w' => ∃ v, e = .returned v ∧ ListIs w' w.heap.size v l ∧ Out 0 0 w w'
  role : ∀ i w, Tab w → Calls Tryd.prog 22 #[.int .i64 k, .int .i64 s, .int .i64 i] w fun e w' => e = .returned (.int .i64 (roleV k s i)) ∧ w' = w
theorem snd_mk (k n n' s : Int) (s1 : -9223372036854775808 ≤ s) (s2 : s ≤ 9223372036854775807) : Snd k n n' s (sizeB k n) (sizeB k n') (fitsB k (sizeV k n)) (decide (1 ≤ k) && decide (k ≤ 10)) (decide (1 ≤ k) && decide (k ≤ 11)) (fitsB k s) (sizeV k n) (sizeV k n') (flds k s) :=
  ⟨fun w h => size_any k n h, fun w h => size_any k n' h, fun w => visible_any k w, fun w => numbered_any k w, fun w h ⟨a, b⟩ => fits_any k _ h (by omega) (by omega), fun w h => fits_any k s h s1 s2, fun w h => fields_any k s h s1 s2, fun i w h => roles_any k s i h s1 s2⟩
set_option maxRecDepth 100000 in
set_option maxHeartbeats 4000000 in
theorem sound_out {k n n' s : Int} {b b' fv vb nb : Bool} {v v' : Int} {w : World} (H : Snd k n n' s b b' fv vb nb false v v' []) (hT : Tab w) (hr : roleV k s 1 = 0) (hn' : wrap64 (n - 1) = n')
    (VN : vb = false ∨ (vb = true ∧ nb = true)) (PRE : (b = false ∧ v = 0) ∨ (b = true ∧ fv = true ∧ Hid (1 ≤ v ∧ v ≤ 1024) ∧ decide (0 < v) = true ∧ decide (1024 < v) = false ∧ decide (v < 1) = false ∧ (b' = false ∨ (b' = true ∧ decide (0 < n) = false) ∨ (b' = true ∧ decide (0 < n) = true ∧ decide (v < v') = false))))
    (hs : decide (s < 0) = true ∨ (decide (s < 0) = false ∧ decide (1100 < s) = true)) :
    Calls Tryd.prog 7 #[.int .i64 k, .int .i64 n, .int .i64 s] w fun e w' => e = .returned (.bool true) ∧ Out 0 0 w w' := by
  have HH := hid_mk H
  have HR := hid_mk (H.role 1)
  rw [hr] at HR
  have HA := hid_mk (alive_any hT)
  have HT := hid_mk hT
  clear hT H hr
  rcases VN with rfl | ⟨rfl, rfl⟩ <;> rcases PRE with ⟨rfl, rfl⟩ | ⟨rfl, rfl, Q, d1, d2, d3, rfl | ⟨rfl, d4⟩ | ⟨rfl, d4, d5⟩⟩ <;> rcases hs with d6 | ⟨d6, d7⟩
  all_goals
    go_enter Tryd.func7, Tryd.ntmps7
    go_wp2_with (first | (go_at_call_of 18 (Value.int IntKind.i64 n); refine calls_same (HH.out.size _ HT.out) ?_) | (go_at_call_of 18 (Value.int IntKind.i64 n'); refine calls_same (HH.out.size' _ HT.out) ?_) | (go_at_call 9; refine HA.out.mono ?_; rintro e w1 ⟨rfl, ho⟩; have HO := hid_mk ho; have HT1 := hid_mk (HT.out.quiet ho); clear ho) | (go_at_call_of 19 (Value.int IntKind.i64 s); refine calls_same (HH.out.fit _ HT1.out) ?_) | (go_at_call_of 19 (Value.int IntKind.i64 v); refine calls_same (HH.out.fitv _ HT1.out Q.out) ?_) | (go_at_call 20; refine calls_same (HH.out.vis _) ?_) | (go_at_call 21; refine calls_same (HH.out.num _) ?_) | (go_at_call 22; refine calls_same (HR.out _ HT1.out) ?_) | (go_at_call 13; refine (HH.out.fld _ HT1.out).mono ?_; rintro e w2 ⟨v2, rfl, hl, ho⟩; obtain ⟨aa, cc, rfl, _⟩ := hl.slice; have HO2 := hid_mk (HO.out.trans ho); clear ho hl))
    go_ret
    exact ⟨rfl, HO2.out⟩
end Go.Proofs.YtoajgbgmiionpaaDoor
