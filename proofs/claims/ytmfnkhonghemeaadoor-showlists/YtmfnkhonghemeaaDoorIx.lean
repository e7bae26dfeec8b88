/- package show: Value of a leaf -/
import Derived.Test.YtmfnkhonghemeaaDoorIw
namespace Go.Proofs.YtmfnkhonghemeaaDoor
open Go.RowKit
set_option linter.unusedVariables false
set_option linter.unusedSimpArgs false

set_option maxRecDepth 100000 in
set_option maxHeartbeats 2000000 in
theorem whole_leaf {W : World} {t p mb g cap : Nat} {hv tv : Value} {n k x : Int} {s : ByteArray} {f0 : Int → Option Value} {cur : Array Value} (h1 : k ≠ 1) (h2 : k ≠ 2) (h3 : k ≠ 3) (ht : TL W t (.pointer (some ⟨p, 0, none⟩)) tv (.slice none 0 0))
    (h : WK W p hv (.map (some mb)) (.slice (some ⟨g, 0, none⟩) 1 cap) n) (hm : MpAt W mb f0) (hf : f0 x = some (.int .i64 0)) (hg : Bl W g cur 68) (c0 : cur[0]? = some (.int .i64 k)) (c2 : cur[2]? = some (.string s)) :
    Calls Tryd.prog 20 #[.pointer (some ⟨t, 0, none⟩), .agg #[.int .i64 2, .int .i64 x]] W fun e w' => (∃ v, e = .returned v) ∧ ∃ (g cap : Nat) (cur : Array Value), W.heap.size ≤ g ∧ TL w' t (.pointer (some ⟨p, 0, none⟩)) tv (.slice (some ⟨g, 0, none⟩) 1 cap) ∧ Bl w' g cur 9 ∧ cur[0]? = some (.string s) ∧ Out t (t + 1) W w' := by
  have o1 : Out 0 0 W (W.alloc (.cells #[.int .i64 2, .int .i64 x] 28)) := (Out.refl _ _ _).alloc _
  have b1 := Bl.new W #[.int .i64 2, .int .i64 x] 28
  have x0 := b1.cell (i := 0) rfl
  have x1 := b1.cell (i := 1) rfl
  have t1 := ht.kept o1 (.inr (Nat.zero_le _))
  have y0 := t1.cell (i := 0) rfl
  have r0 := ht.cell (i := 0) rfl
  have hl := ht.lt
  have HO := hid_mk o1
  have HT := hid_mk ht
  have HH := hid_mk (And.intro h (And.intro hm (And.intro hf hg)))
  have HC := hid_mk (And.intro c0 c2)
  have HN := hid_mk (And.intro h1 (And.intro h2 h3))
  clear o1 b1 ht t1 h hm hf hg c0 c2 h1 h2 h3
  go_enter Tryd.func20, Tryd.ntmps20
  go_wp2_with fail
  go_region_with (go_at_call 26; refine (thing_at (HH.out.1.kept HO.out.drew (.inr (Nat.zero_le _))) (HH.out.2.1.kept HO.out.drew (.inr (Nat.zero_le _))) HH.out.2.2.1).mono ?_; rintro e w2 ⟨rfl, o2⟩)
  all_goals
    have o3 := HO.out.drew.trans o2
    have kT := HT.out.kept o3 (.inr (Nat.zero_le _))
    have kG := HH.out.2.2.2.kept o3 (.inr (Nat.zero_le _))
    have z0 := kG.cell HC.out.1
    have z2 := kG.cell HC.out.2
    have HK := hid_mk (And.intro kT o3)
    have HCn := hid_mk (container_no HN.out.1 HN.out.2.1 HN.out.2.2 z0)
    clear kT kG o3 o2 x0 x1 y0 r0
    go_wp2_with (first
      | (go_at_call 18; refine calls_same HCn.out ?_)
      | (go_at_call 22; refine (add_one (Bl.alloc HK.out.1 _) (Bl.new w2 #[.string s] 9)).mono ?_; rintro e w3 ⟨⟨v, rfl⟩, g3, cap3, cur3, hg3, h3, hc3, hcur3, ho3⟩))
    exact bodyPost_ret (results_none Tryd.results20 _ _ _) rfl ⟨⟨_, rfl⟩, g3, cap3, cur3, Nat.le_trans (HK.out.2.alloc (.cells #[.string s] 9)).size hg3, h3, hc3, hcur3, ((HK.out.2.alloc _).any _ _).trans ho3⟩
end Go.Proofs.YtmfnkhonghemeaaDoor
