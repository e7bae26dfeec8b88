/- slices.Sorted of the keys of a map with one key -/
import Derived.Test.YtocncffplcfpbaaGreatDoorGrn
namespace Go.Proofs.YtocncffplcfpbaaGreatDoor
open Go.RowKit Go.MapKept
set_option linter.unusedVariables false
set_option linter.unusedSimpArgs false

/-- an iterator that hands out one number -/
def One (W : World) (gf g : Nat) (a0 : Int) : Prop := (∀ args w, (callFunc gf args).run Tryz.prog w = .ok (.enter gf args) w) ∧ ∀ (W1 : World) (l : Nat) (S : Nat → Prop) (J : World → Prop), Out 0 0 W W1 → (∀ k, S k → W.heap.size ≤ k ∧ k < W1.heap.size) → (∀ W2, Out 0 0 W1 W2 → YieldAt Fence.wide 0 Tryz.prog l #[.int .i64 a0] W2 fun e w' => e = .returned (.bool true) ∧ Fx S W2 w' ∧ J w') →
      Calls Tryz.prog gf (#[.func (.yield l) #[] #[]] ++ #[.pointer (some ⟨g, 0, none⟩)]) W1 fun e w' => (∃ v, e = .returned v) ∧ J w'
theorem oneN {W : World} {g m : Nat} {f : Int → Option Value} {a0 : Int} {v0 : Value} (hg : Bl W g #[.map (some m)] 57) (hm : MpAt W m f) (hf : f a0 = some v0) (hf' : ∀ a v, f a = some v → a = a0) : One W 45 g a0 :=
  ⟨enters_of Tryz.func45 (by kernel_rfl) rfl, fun W1 l S J o hS hy => keysN_one (hg.kept o (.inr (Nat.zero_le _))) (hm.kept o (.inr (Nat.zero_le _))) hf hf' S (fun q => by have := (hS _ q).1; have := hm.lt; omega) (fun k q => (hS k q).2) J hy⟩
theorem oneS {W : World} {g m : Nat} {f : Int → Option Value} {a0 : Int} {v0 : Value} (hg : Bl W g #[.map (some m)] 51) (hm : MpAt W m f) (hf : f a0 = some v0) (hf' : ∀ a v, f a = some v → a = a0) : One W 29 g a0 :=
  ⟨enters_of Tryz.func29 (by kernel_rfl) rfl, fun W1 l S J o hS hy => keysS_one (hg.kept o (.inr (Nat.zero_le _))) (hm.kept o (.inr (Nat.zero_le _))) hf hf' S (fun q => by have := (hS _ q).1; have := hm.lt; omega) (fun k q => (hS k q).2) J hy⟩
def SortedQ (W : World) (a0 : Int) (e : Ending) (w' : World) : Prop := ∃ b c, e = .returned (.slice (some ⟨b, 0, none⟩) 1 c) ∧ Out 0 0 W w' ∧ w'.cell? ⟨b, 0, none⟩ = some (.int .i64 a0) ∧ W.heap.size ≤ b
theorem collectInt_one {W : World} {gf g : Nat} {a0 : Int} (h : One W gf g a0) : Calls Tryz.prog 27 #[.func (.func gf) #[] #[.pointer (some ⟨g, 0, none⟩)]] W (SortedQ W a0) := by
  have H := hid_mk (appseq_one h.1 h.2)
  clear h
  go_enter Tryz.func27, Tryz.ntmps27
  go_wp2_with fail
  refine H.out.mono ?_
  rintro e w1 ⟨b, c, rfl, hQ⟩
  clear H
  go_wp2_with fail
  go_ret
  exact ⟨b, c, rfl, hQ⟩
theorem sorted_one {W : World} {gf g : Nat} {a0 : Int} (h : One W gf g a0) : Calls Tryz.prog 12 #[.func (.func gf) #[] #[.pointer (some ⟨g, 0, none⟩)]] W (SortedQ W a0) := by
  have H := hid_mk (collectInt_one h)
  clear h
  go_enter Tryz.func12, Tryz.ntmps12
  go_wp2_with fail
  refine H.out.mono ?_
  rintro e w1 ⟨b, c, rfl, hQ⟩
  have HQ := hid_mk hQ
  clear H hQ
  go_wp2_with (go_at_call 28; refine calls_same (sort_one _ _ _) ?_)
  go_ret
  exact ⟨b, c, rfl, HQ.out⟩
end Go.Proofs.YtocncffplcfpbaaGreatDoor
