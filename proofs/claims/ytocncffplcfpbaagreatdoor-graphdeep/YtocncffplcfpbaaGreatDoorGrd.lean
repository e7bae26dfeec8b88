/- graph: formed, hold of a node that is neither text nor table -/
import Derived.Test.YtocncffplcfpbaaGreatDoorGrc
namespace Go.Proofs.YtocncffplcfpbaaGreatDoor
open Go.RowKit
set_option linter.unusedVariables false
set_option linter.unusedSimpArgs false

theorem zero_sub_w (r : Nat) : IntKind.i64.wrap ((r : Int) - (r : Int)) = 0 := by rw [Int.sub_self]; rfl
set_option maxHeartbeats 2000000 in
theorem formed_yes {W : World} (hT : Tab W) (id : Int) (j : Nat) (h1 : 1 ≤ j) (h2 : j ≤ 11) (h4 : j ≠ 4) (h10 : j ≠ 10) (ra fa ea : Option Addr) (nr rc nf fc ec : Nat) (hr : fr j = nr) (d : Int) (hd : (nf : Int) - ff j = d) (hdw : IntKind.i64.wrap d = d) (hs : sizeB j d = true) :
    Calls Tryz.prog 18 #[.agg #[.int .i64 id, .int .i64 j, .slice ra nr rc, .slice fa nf fc, .slice ea 0 ec]] W fun e w' => e = .returned (.bool true) ∧ Out 0 0 W w' := by
  obtain ⟨W1, hW1⟩ : ∃ W1, W.alloc (.cells #[.int .i64 id, .int .i64 j, .slice ra nr rc, .slice fa nf fc, .slice ea 0 ec] 32) = W1 := ⟨_, rfl⟩
  obtain ⟨g, hg0⟩ : ∃ g, W.heap.size = g := ⟨_, rfl⟩
  have o1 : Out 0 0 W W1 := hW1 ▸ (Out.refl _ _ _).alloc _
  have V0 : Bl W1 g #[.int .i64 id, .int .i64 j, .slice ra nr rc, .slice fa nf fc, .slice ea 0 ec] 32 := by rw [← hW1, ← hg0]; exact Bl.new _ _ _
  have c0 := V0.cell (i := 0) rfl
  have c1 := V0.cell (i := 1) rfl
  have c2 := V0.cell (i := 2) rfl
  have c3 := V0.cell (i := 3) rfl
  have c4 := V0.cell (i := 4) rfl
  have T1 := hT.quiet o1
  obtain ⟨t1, t2⟩ := T1.2.2 j (by omega)
  rw [hr] at t1
  have HN := hid_mk (numbered_any j)
  rw [show (decide ((1 : Int) ≤ (j : Int)) && decide ((j : Int) ≤ 11)) = true from by simp; omega] at HN
  have HO := hid_mk o1
  have HT := hid_mk T1
  have j0 : (0 : Int) ≤ (j : Int) := by omega
  have j12 : (j : Int) < 12 := by omega
  have q4 : ((j : Int) == 4) = false := by simp; omega
  have q10 : ((j : Int) == 10) = false := by simp; omega
  have z1 := zero_sub_w nr
  have hd' : IntKind.i64.wrap ((nf : Int) - ff j) = d := by rw [hd]; exact hdw
  have HS := hid_mk hs
  clear hT o1 T1 hr hs hd hdw V0 h2 h1
  generalize ff j = y at *
  go_enter Tryz.func18, Tryz.ntmps18
  go_upto_region 3 with (go_at_call 35; refine calls_same (HN.out _) ?_)
  refine wp_region_held_drew (S := fun w' => w'.cell? ⟨g, 1, none⟩ = some (.int .i64 j) ∧ w'.cell? ⟨g, 2, none⟩ = some (.slice ra nr rc) ∧ w'.cell? ⟨g, 3, none⟩ = some (.slice fa nf fc) ∧ w'.cell? ⟨0, j * 2, none⟩ = some (.int .i64 nr) ∧ w'.cell? ⟨0, j * 2 + 1, none⟩ = some (.int .i64 y)) (by kernel_rfl) ?hS1 (fun hHeld => ?rest1)
  case hS1 => exact ⟨c1, c2, c3, t1, t2⟩
  refine tk 0 ?_
  refine tk 1 ?_
  refine tk 2 ?_
  refine tk 3 ?_
  refine tk 4 ?_
  refine tk 5 ?_
  refine tk 6 ?_
  refine tk 7 ?_
  refine tk 8 ?_
  refine tk 9 ?_
  refine tk 10 ?_
  refine tk 11 ?_
  refine tk 12 ?_
  refine tk 13 ?_
  refine tk 14 ?_
  refine tk 15 ?_
  refine tk 16 ?_
  refine tk 17 ?_
  refine tk 18 ?_
  refine tk 19 ?_
  refine wpAnyH_done (by kernel_rfl) ?_ _
  have HZ := hid_mk (size_any j d (HT.out.quiet ((Out.refl 0 0 W1).drew)))
  rw [HS.out] at HZ
  have HO2 := hid_mk (HO.out.drew)
  have z2 : IntKind.i64.wrap 0 = 0 := rfl
  clear hHeld t1 t2 c2 c3 c4 c0 z1 hd' HT HS HN HO hW1 hg0 q4 q10
  go_wp2_with (go_at_call 38; refine calls_same HZ.out ?_)
  go_ret
  exact ⟨rfl, HO2.out⟩

/-- a node as a heap holds it -/
abbrev ndc (k : Int) (r f : Value) : Array Value := #[.int .i64 k, r, f, .map none]
set_option maxHeartbeats 2000000 in
theorem hold_plain {W : World} (id : Int) (j : Nat) (h10 : j ≠ 10) (ra fa ea : Option Addr) (nr rc nf fc ec : Nat) :
    Calls Tryz.prog 19 #[.agg #[.int .i64 id, .int .i64 j, .slice ra nr rc, .slice fa nf fc, .slice ea 0 ec]] W fun e w' => ∃ b, e = .returned (.pointer (some ⟨b, 0, none⟩)) ∧ Out 0 0 W w' ∧ W.heap.size ≤ b ∧ Bl w' b (ndc j (.slice ra nr rc) (.slice fa nf fc)) 94 := by
  have B0 := Bl.new W #[.int .i64 id, .int .i64 j, .slice ra nr rc, .slice fa nf fc, .slice ea 0 ec] 32
  have c1 := B0.cell (i := 1) rfl
  have c2 := B0.cell (i := 2) rfl
  have c3 := B0.cell (i := 3) rfl
  have c4 := B0.cell (i := 4) rfl
  have q10 : ((j : Int) == 10) = false := by simp; omega
  clear B0
  go_enter Tryz.func19, Tryz.ntmps19
  go_wp2_with fail
  obtain ⟨V, hV⟩ : ∃ V, (W.alloc (.cells #[.int .i64 id, .int .i64 j, .slice ra nr rc, .slice fa nf fc, .slice ea 0 ec] 32)).alloc (.cells (ndc j (.slice ra nr rc) (.slice fa nf fc)) 94) = V := ⟨_, rfl⟩
  have HB : Hid (Out 0 0 W V ∧ W.heap.size ≤ W.heap.size + 1 ∧ Bl V (W.heap.size + 1) (ndc j (.slice ra nr rc) (.slice fa nf fc)) 94) := by
    refine hid_mk ⟨hV ▸ ((Out.refl 0 0 W).alloc _).alloc _, by omega, ?_⟩
    have := Bl.new (W.alloc (.cells #[.int .i64 id, .int .i64 j, .slice ra nr rc, .slice fa nf fc, .slice ea 0 ec] 32)) (ndc j (.slice ra nr rc) (.slice fa nf fc)) 94
    rwa [size_alloc, hV] at this
  (try rw [hV])
  clear c1 c2 c3 c4 hV
  go_loopw [27] (fun c wr => c = .int .i64 0 ∧ wr = V) (fun _ _ => 0)
  case atStart => exact ⟨rfl, rfl⟩
  case round =>
    obtain ⟨rfl, rfl⟩ := hrel
    go_wp2_with fail
    go_ret
    exact ⟨_, rfl, HB.out⟩
end Go.Proofs.YtocncffplcfpbaaGreatDoor
