/- package show: texts of what holds nothing -/
import Derived.Test.YtmfnkhonghemeaaDoorIe
import Derived.Test.YtmfnkhonghemeaaDoorIs
import Derived.Lib.AppendIntMem
namespace Go.Proofs.YtmfnkhonghemeaaDoor
open Go.RowKit
set_option linter.unusedVariables false
set_option linter.unusedSimpArgs false

/-- the library's table of powers -/
def Tp (w : World) : Prop := Lib.TabIs Tryd.prog w "internal/strconv.uint64pow10" .u64 Lib.pow10Tab
theorem gPow : Tryd.prog.globalNamed "internal/strconv.uint64pow10" = some 1 := by kernel_rfl
theorem Tp.kept {w w' : World} {lo hi : Nat} (h : Tp w) (g : Out lo hi w w') (h2 : 8 ≤ lo ∨ hi = 0) : Tp w' := by
  unfold Tp Lib.TabIs World.var? at *
  rw [gPow] at *
  simp only [Option.bind_some] at *
  have hl : 1 < w.heap.size := by
    by_cases hb : 1 < w.heap.size
    · exact hb
    · have : w.heap[1]? = none := by simp; omega
      rw [this] at h; cases h
  rw [g.block hl (by omega)]
  exact h
theorem itoa_at (n : Int) (h0 : -9223372036854775808 ≤ n) (h1 : n ≤ 9223372036854775807) {w : World} (ht : Tp w) :
    Calls Tryd.prog 30 #[.int .i64 n] w fun e w' => e = .returned (.string ⟨(Lib.itoa n).toArray⟩) ∧ Out 0 0 w w' :=
  (Tryd.strconv_Itoa n h0 h1 w ht).mono fun _ _ ⟨he, k, os, hw⟩ => ⟨he, by rw [hw]; exact Out.of_below (Lib.below_grow _ w (Nat.le_refl _) k os) 0 0⟩
theorem join_one {w : World} {g c : Nat} {s sep : ByteArray} (h : w.cell? ⟨g, 0, none⟩ = some (.string s)) :
    Calls Tryd.prog 33 #[.slice (some ⟨g, 0, none⟩) 1 c, .string sep] w fun e w' => e = .returned (.string s) ∧ w' = w := by
  go_enter Tryd.func33, Tryd.ntmps33
  go_wp2
  go_ret
  exact ⟨rfl, rfl⟩
theorem joined_one {w : World} {g c : Nat} {s : ByteArray} (h : w.cell? ⟨g, 0, none⟩ = some (.string s)) :
    Calls Tryd.prog 23 #[.slice (some ⟨g, 0, none⟩) 1 c] w fun e w' => e = .returned (.string s) ∧ w' = w := by
  have H := hid_mk h
  clear h
  go_enter Tryd.func23, Tryd.ntmps23
  go_wp2_with (go_at_call 33; refine calls_same (join_one H.out) ?_)
  go_ret
  exact ⟨rfl, rfl⟩
theorem simple_fix (n : Int) (h0 : -9223372036854775808 ≤ n) (h1 : n ≤ 9223372036854775807) {w : World} (ht : Tp w) :
    Calls Tryd.prog 29 #[.agg #[.int .i64 1, .int .i64 n]] w fun e w' => e = .returned (.string ⟨(Lib.itoa n).toArray⟩) ∧ Out 0 0 w w' := by
  have o1 : Out 0 0 w (w.alloc (.cells #[.int .i64 1, .int .i64 n] 28)) := (Out.refl _ _ _).alloc _
  have b1 := Bl.new w #[.int .i64 1, .int .i64 n] 28
  have x0 := b1.cell (i := 0) rfl
  have x1 := b1.cell (i := 1) rfl
  have HT := hid_mk (ht.kept o1 (.inr rfl))
  go_enter Tryd.func29, Tryd.ntmps29
  go_wp2_with (go_at_call 30; refine (itoa_at _ h0 h1 HT.out).mono ?_; rintro e w2 ⟨rfl, hb⟩)
  go_ret
  exact ⟨rfl, o1.trans hb⟩
theorem whole_simple {W : World} {t : Nat} {wp tv : Value} {k x : Int} {s : ByteArray} (hk : k ≠ 2) (h : TL W t wp tv (.slice none 0 0))
    (hs : ∀ W1, Out 0 0 W W1 → Calls Tryd.prog 29 #[.agg #[.int .i64 k, .int .i64 x]] W1 fun e w' => e = .returned (.string s) ∧ Out 0 0 W1 w') :
    Calls Tryd.prog 20 #[.pointer (some ⟨t, 0, none⟩), .agg #[.int .i64 k, .int .i64 x]] W fun e w' => (∃ v, e = .returned v) ∧ ∃ (g cap : Nat) (cur : Array Value), W.heap.size ≤ g ∧ TL w' t wp tv (.slice (some ⟨g, 0, none⟩) 1 cap) ∧ Bl w' g cur 9 ∧ cur[0]? = some (.string s) ∧ Out t (t + 1) W w' := by
  have o1 : Out 0 0 W (W.alloc (.cells #[.int .i64 k, .int .i64 x] 28)) := (Out.refl _ _ _).alloc _
  have b1 := Bl.new W #[.int .i64 k, .int .i64 x] 28
  have x0 := b1.cell (i := 0) rfl
  have x1 := b1.cell (i := 1) rfl
  have hk2 : (k == 2) = false := by simpa using hk
  have hl := h.lt
  have HH := hid_mk h
  have HS := hid_mk hs
  have HO := hid_mk o1
  clear hs o1 b1 h
  go_enter Tryd.func20, Tryd.ntmps20
  go_wp2_with (first
    | (go_at_call 29; refine (HS.out _ HO.out).mono ?_; rintro e w2 ⟨rfl, hb⟩; have h2 : Hid (TL (w2.alloc (.cells #[.string s] 9)) t wp tv (.slice none 0 0)) := (HH.out.kept (HO.out.trans hb) (.inr (Nat.zero_le _))).alloc _; have hb2 := hid_mk (Bl.new w2 #[.string s] 9); have ho2 := hid_mk ((HO.out.trans hb).alloc (.cells #[.string s] 9)); clear hb)
    | (go_at_call 22; refine (add_one h2.out hb2.out).mono ?_; rintro e w3 ⟨⟨v, rfl⟩, g, cap, cur, hg, h3, hc, hcur, ho⟩))
  exact bodyPost_ret (results_none Tryd.results20 _ _ _) rfl ⟨⟨_, rfl⟩, g, cap, cur, Nat.le_trans ho2.out.size hg, h3, hc, hcur, (ho2.out.any _ _).trans ho⟩
theorem wp_named {P : Program} {c : Code} {Q : Exit → Act → World → Prop} {a : Act} {w : World} (h : ∀ W1, W1 = w → c.wp P Q a W1) : c.wp P Q a w := h w rfl
set_option maxHeartbeats 2000000 in
theorem text_one {W : World} {t : Nat} {wp : Value} {k x : Int} {s : ByteArray} (h : TL W t wp (.slice none 0 0) (.slice none 0 0))
    (hw : ∀ W1 tv, TL W1 t wp tv (.slice none 0 0) → Out t (t + 1) W W1 → Calls Tryd.prog 20 #[.pointer (some ⟨t, 0, none⟩), .agg #[.int .i64 k, .int .i64 x]] W1 fun e w' =>
      (∃ v, e = .returned v) ∧ ∃ (g cap : Nat) (cur : Array Value), W1.heap.size ≤ g ∧ TL w' t wp tv (.slice (some ⟨g, 0, none⟩) 1 cap) ∧ Bl w' g cur 9 ∧ cur[0]? = some (.string s) ∧ Out t (t + 1) W1 w') :
    Calls Tryd.prog 15 #[.pointer (some ⟨t, 0, none⟩), .agg #[.int .i64 k, .int .i64 x]] W fun e w' => e = .returned (.string s) ∧ Out t (t + 1) W w' := by
  have o1 : Out t (t + 1) W ((W.alloc (.cells #[.int .i64 k, .int .i64 x] 28)).alloc (.cells #[.int .i64 0, .int .i64 k, .int .i64 x] 72)) := ((Out.refl _ _ _).alloc _).alloc _
  have h1 : TL ((W.alloc (.cells #[.int .i64 k, .int .i64 x] 28)).alloc (.cells #[.int .i64 0, .int .i64 k, .int .i64 x] 72)) t wp (.slice none 0 0) (.slice none 0 0) := (Bl.alloc h _).alloc _
  have b1 : Bl ((W.alloc (.cells #[.int .i64 k, .int .i64 x] 28)).alloc (.cells #[.int .i64 0, .int .i64 k, .int .i64 x] 72)) (W.heap.size + 1) #[.int .i64 0, .int .i64 k, .int .i64 x] 72 := size_alloc W _ ▸ Bl.new _ _ _
  have v1 := (Bl.new W #[.int .i64 k, .int .i64 x] 28).cell (i := 0) rfl
  have v2 := (Bl.new W #[.int .i64 k, .int .i64 x] 28).cell (i := 1) rfl
  have HO := hid_mk o1
  have H1 := hid_mk (And.intro h1 b1)
  have HW := hid_mk hw
  have HL : Hid (t < W.heap.size) := h.lt
  clear o1 h1 b1 hw h
  go_enter Tryd.func15, Tryd.ntmps15
  go_wp2_with (go_at_call 19; refine (later_one H1.out.1 H1.out.2).mono ?_; rintro e w2 ⟨⟨v, rfl⟩, g, cap, cur, hg, h2, hc, c0, c1, c2, ho⟩)
  refine wp_loop_rounds 2 ?_
  have ht2 : t < w2.heap.size := h2.lt
  have l1 := h2.cell (i := 1) rfl
  have l2 := h2.frozen 1
  have m0 := hc.cell c0
  have m1 := hc.cell c1
  have m2 := hc.cell c2
  have H2 := hid_mk (And.intro h2 (And.intro hc ho))
  have HG := hid_mk hg
  clear h2 hc ho hg c0 c1 c2 v1 v2
  have h3 : TL (w2.alloc (.cells #[.int .i64 0, .int .i64 k, .int .i64 x] 72)) t wp (.slice (some ⟨g, 0, none⟩) 1 cap) (.slice none 0 0) := H2.out.1.alloc _
  have l3 := h3.cell (i := 1) rfl
  have l4 := h3.frozen 1
  have H4 : Hid (TL ((w2.setCell ⟨t, 1, none⟩ (.slice (some ⟨g, 0, none⟩) 0 cap)).alloc (.cells #[.int .i64 0, .int .i64 k, .int .i64 x] 72)) t wp (.slice (some ⟨g, 0, none⟩) 0 cap) (.slice none 0 0)) := (H2.out.1.set 1 _).alloc _
  have HO4 : Hid (Out t (t + 1) W ((w2.setCell ⟨t, 1, none⟩ (.slice (some ⟨g, 0, none⟩) 0 cap)).alloc (.cells #[.int .i64 0, .int .i64 k, .int .i64 x] 72))) := ((HO.out.trans H2.out.2.2).setCell (.inl ⟨Nat.le_refl _, Nat.lt_succ_self _⟩) _).alloc _
  have k5 : Bl ((w2.setCell ⟨t, 1, none⟩ (.slice (some ⟨g, 0, none⟩) 0 cap)).alloc (.cells #[.int .i64 0, .int .i64 k, .int .i64 x] 72)) w2.heap.size #[.int .i64 0, .int .i64 k, .int .i64 x] 72 := size_set w2 _ _ ▸ Bl.new _ _ _
  have n0 := k5.cell (i := 0) rfl
  have n1 := k5.cell (i := 1) rfl
  have n2 := k5.cell (i := 2) rfl
  clear h3 k5
  rw [rounds_succ]
  go_wp2_with (go_at_call 20; refine (HW.out _ _ H4.out HO4.out).mono ?_; rintro e w5 ⟨⟨v5, rfl⟩, g5, cap5, cur5, hg5, h5, hc5, hcur5, ho5⟩)
  rw [rounds_succ]
  have p1 := h5.cell (i := 1) rfl
  have p2 := h5.cell (i := 2) rfl
  have q0 := hc5.cell hcur5
  have HO5 := hid_mk (HO4.out.trans ho5)
  clear h5 hc5 hcur5 ho5 l1 l2 l3 l4 m0 m1 m2 n0 n1 n2
  go_wp2_with (go_at_call 23; refine calls_same (joined_one q0) ?_)
  go_ret
  exact ⟨rfl, HO5.out⟩
end Go.Proofs.YtmfnkhonghemeaaDoor
