/- package show: what a container holds -/
import Derived.Test.YtmfnkhonghemeaaDoorIp
import Derived.Laws.CopyRow
namespace Go.Proofs.YtmfnkhonghemeaaDoor
open Go.RowKit
set_option linter.unusedVariables false
set_option linter.unusedSimpArgs false

/-- copy, of elements of any size -/
theorem copy_any {P : Program} (w : World) (dT sT ty elem : TypeId) (g o dLen dCap : Nat) (a : Addr) (sLen sCap sz : Nat) (cur : Array Value) (t : TypeId) (cs : List Value)
    (hu : P.underlying dT = some (.slice elem)) (hs : (P.info? elem).map (·.size) = some sz)
    (hg : w.heap[g]? = some (.cells cur t (0, 0))) (hn : cs.length = Nat.min sLen dLen * sz)
    (hsrc : ∀ j v, cs[j]? = some v → w.cell? (a.add j) = some v) (hfit : o + cs.length ≤ cur.size) (h1 : ∀ v ∈ cs, v.oneCell' = true) :
    (Builtin.copy_ #[dT, sT] ty #[.slice (some ⟨g, o, none⟩) dLen dCap, .slice (some a) sLen sCap]).run P w =
      .ok (goInt (Nat.min sLen dLen)) (w.setRow g (cur.toList.take o ++ cs ++ cur.toList.drop (o + cs.length)).toArray) := by
  have hl := run_loadCells_list (P := P) w a cs hsrc
  have hst := run_storeCells_at P g o t cs 0 cur w hg (by simpa using hfit) h1
  cases hq : P.info? elem with
  | none => simp [hq] at hs
  | some i =>
    have hi : i.size = sz := by simpa [hq] using hs
    rw [hn] at hl
    simp [Builtin.copy_, run_underlying hu, Builtin.lenOf, Builtin.firstCells, sizeOf, typeInfo, hq, hi, hl, hst]
theorem out_setRow (w : World) (g : Nat) (cs : Array Value) : Out g (g + 1) w (w.setRow g cs) := ⟨rfl, rfl, rfl, by simp, fun k h1 h2 => by
  simp only [World.setRow, Array.getElem?_modify]
  rw [if_neg (by omega)]⟩
theorem info_val : (Tryd.prog.info? 28).map (·.size) = some 2 := by kernel_rfl
theorem make_two (w : World) : (Instr.makeSlice 24 (.int .i64 2) (.int .i64 2)).run Tryd.prog w = .ok (.slice (some ⟨w.heap.size, 0, none⟩) 2 2) (w.alloc (.cells #[.int .i64 0, .int .i64 0, .int .i64 0, .int .i64 0] 28)) := by kernel_rfl
theorem copy_two {W : World} {F c : Nat} {k1 n1 k2 n2 : Int} {T : TypeId} (hF : Bl W F #[.int .i64 k1, .int .i64 n1, .int .i64 k2, .int .i64 n2] T) : ∃ w', (Builtin.copy_ #[24, 24] 3 #[.slice (some ⟨W.heap.size, 0, none⟩) 2 2, .slice (some ⟨F, 0, none⟩) 2 c]).run Tryd.prog (W.alloc (.cells #[.int .i64 0, .int .i64 0, .int .i64 0, .int .i64 0] 28)) = .ok (.int .i64 2) w' ∧ Bl w' W.heap.size #[.int .i64 k1, .int .i64 n1, .int .i64 k2, .int .i64 n2] 28 ∧ Out W.heap.size (W.heap.size + 1) (W.alloc (.cells #[.int .i64 0, .int .i64 0, .int .i64 0, .int .i64 0] 28)) w' := by
  have hN := Bl.new W #[.int .i64 0, .int .i64 0, .int .i64 0, .int .i64 0] 28
  have hF2 := hF.alloc (.cells #[.int .i64 0, .int .i64 0, .int .i64 0, .int .i64 0] 28)
  have h := copy_any (P := Tryd.prog) (W.alloc (.cells #[.int .i64 0, .int .i64 0, .int .i64 0, .int .i64 0] 28)) 24 24 3 28 W.heap.size 0 2 2 ⟨F, 0, none⟩ 2 c 2 #[.int .i64 0, .int .i64 0, .int .i64 0, .int .i64 0] 28 [.int .i64 k1, .int .i64 n1, .int .i64 k2, .int .i64 n2] Tryd.underlying24 info_val hN rfl (by
    intro j v hj
    rw [Addr.add_lit, Nat.zero_add]
    exact hF2.cell (by simpa using hj)) (by simp) (by intro v hv; simp at hv; rcases hv with rfl | rfl | rfl | rfl <;> rfl)
  refine ⟨_, h, ?_, ?_⟩
  · exact setRow_heap _ _ _ _ _ _ hN
  · exact out_setRow _ _ _
theorem make_one (w : World) : (Instr.makeSlice 24 (.int .i64 1) (.int .i64 1)).run Tryd.prog w = .ok (.slice (some ⟨w.heap.size, 0, none⟩) 1 1) (w.alloc (.cells #[.int .i64 0, .int .i64 0] 28)) := by kernel_rfl
theorem copy_one {W : World} {F c : Nat} {k1 n1 : Int} {T : TypeId} (hF : Bl W F #[.int .i64 k1, .int .i64 n1] T) : ∃ w', (Builtin.copy_ #[24, 24] 3 #[.slice (some ⟨W.heap.size, 0, none⟩) 1 1, .slice (some ⟨F, 0, none⟩) 1 c]).run Tryd.prog (W.alloc (.cells #[.int .i64 0, .int .i64 0] 28)) = .ok (.int .i64 1) w' ∧ Bl w' W.heap.size #[.int .i64 k1, .int .i64 n1] 28 ∧ Out W.heap.size (W.heap.size + 1) (W.alloc (.cells #[.int .i64 0, .int .i64 0] 28)) w' := by
  have hN := Bl.new W #[.int .i64 0, .int .i64 0] 28
  have hF2 := hF.alloc (.cells #[.int .i64 0, .int .i64 0] 28)
  have h := copy_any (P := Tryd.prog) (W.alloc (.cells #[.int .i64 0, .int .i64 0] 28)) 24 24 3 28 W.heap.size 0 1 1 ⟨F, 0, none⟩ 1 c 2 #[.int .i64 0, .int .i64 0] 28 [.int .i64 k1, .int .i64 n1] Tryd.underlying24 info_val hN rfl (by
    intro j v hj
    rw [Addr.add_lit, Nat.zero_add]
    exact hF2.cell (by simpa using hj)) (by simp) (by intro v hv; simp at hv; rcases hv with rfl | rfl <;> rfl)
  refine ⟨_, h, ?_, ?_⟩
  · exact setRow_heap _ _ _ _ _ _ hN
  · exact out_setRow _ _ _
set_option maxRecDepth 100000 in
set_option maxHeartbeats 2000000 in
theorem held_two {W : World} {i k1 n1 k2 n2 : Int} {a1 a3 : Option Addr} {l1 l3 c1 c2 c3 F : Nat} {T : TypeId} (hF : Bl W F #[.int .i64 k1, .int .i64 n1, .int .i64 k2, .int .i64 n2] T) :
    Calls Tryd.prog 37 #[.agg #[.int .i64 i, .int .i64 1, .slice a1 l1 c1, .slice (some ⟨F, 0, none⟩) 2 c2, .slice a3 l3 c3]] W fun e w' => (∃ g, e = .returned (.slice (some ⟨g, 0, none⟩) 2 2) ∧ W.heap.size ≤ g ∧ Bl w' g #[.int .i64 k1, .int .i64 n1, .int .i64 k2, .int .i64 n2] 28) ∧ Out 0 0 W w' := by
  have b1 := Bl.new W #[.int .i64 i, .int .i64 1, .slice a1 l1 c1, .slice (some ⟨F, 0, none⟩) 2 c2, .slice a3 l3 c3] 34
  have x1 := b1.cell (i := 1) rfl
  obtain ⟨w1, hcp, k1', q1⟩ := copy_two (c := c2) (hF.alloc (.cells #[.int .i64 i, .int .i64 1, .slice a1 l1 c1, .slice (some ⟨F, 0, none⟩) 2 c2, .slice a3 l3 c3] 34))
  have o1 : Out 0 0 W (W.alloc (.cells #[.int .i64 i, .int .i64 1, .slice a1 l1 c1, .slice (some ⟨F, 0, none⟩) 2 c2, .slice a3 l3 c3] 34)) := (Out.refl _ _ _).alloc _
  have b2 := b1.alloc (.cells #[.int .i64 0, .int .i64 0, .int .i64 0, .int .i64 0] 28)
  have x3 := b2.cell (i := 3) rfl
  have y3 := b1.cell (i := 3) rfl
  have HK := hid_mk (And.intro k1' ((o1.alloc _).past q1 (by rw [size_alloc]; exact Nat.le_succ _)))
  rw [size_alloc] at hcp HK
  have hm := make_two
  clear b1 b2 o1 k1' q1 hF
  go_enter Tryd.func37, Tryd.ntmps37
  go_wp2_with fail
  refine wp_loop_once ?_
  go_wp2_with fail
  go_ret
  exact ⟨⟨_, rfl, Nat.le_succ _, HK.out.1⟩, HK.out.2⟩
set_option maxRecDepth 100000 in
set_option maxHeartbeats 2000000 in
theorem held_one {W : World} {i k1 n1 : Int} {a1 a3 : Option Addr} {l1 l3 c1 c2 c3 F : Nat} {T : TypeId} (hF : Bl W F #[.int .i64 k1, .int .i64 n1] T) :
    Calls Tryd.prog 37 #[.agg #[.int .i64 i, .int .i64 2, .slice a1 l1 c1, .slice (some ⟨F, 0, none⟩) 1 c2, .slice a3 l3 c3]] W fun e w' => (∃ g, e = .returned (.slice (some ⟨g, 0, none⟩) 1 1) ∧ W.heap.size ≤ g ∧ Bl w' g #[.int .i64 k1, .int .i64 n1] 28) ∧ Out 0 0 W w' := by
  have b1 := Bl.new W #[.int .i64 i, .int .i64 2, .slice a1 l1 c1, .slice (some ⟨F, 0, none⟩) 1 c2, .slice a3 l3 c3] 34
  have x1 := b1.cell (i := 1) rfl
  obtain ⟨w1, hcp, k1', q1⟩ := copy_one (c := c2) (hF.alloc (.cells #[.int .i64 i, .int .i64 2, .slice a1 l1 c1, .slice (some ⟨F, 0, none⟩) 1 c2, .slice a3 l3 c3] 34))
  have o1 : Out 0 0 W (W.alloc (.cells #[.int .i64 i, .int .i64 2, .slice a1 l1 c1, .slice (some ⟨F, 0, none⟩) 1 c2, .slice a3 l3 c3] 34)) := (Out.refl _ _ _).alloc _
  have b2 := b1.alloc (.cells #[.int .i64 0, .int .i64 0] 28)
  have x3 := b2.cell (i := 3) rfl
  have y3 := b1.cell (i := 3) rfl
  have HK := hid_mk (And.intro k1' ((o1.alloc _).past q1 (by rw [size_alloc]; exact Nat.le_succ _)))
  rw [size_alloc] at hcp HK
  have hm := make_one
  clear b1 b2 o1 k1' q1 hF
  go_enter Tryd.func37, Tryd.ntmps37
  go_wp2_with fail
  refine wp_loop_once ?_
  go_wp2_with fail
  go_ret
  exact ⟨⟨_, rfl, Nat.le_succ _, HK.out.1⟩, HK.out.2⟩
end Go.Proofs.YtmfnkhonghemeaaDoor
