/- package show: a leaf that is met first -/
import Derived.Test.YtmfnkhonghemeaaDoorIp
import Derived.Test.YtmfnkhonghemeaaDoorIu
namespace Go.Proofs.YtmfnkhonghemeaaDoor
open Go.RowKit
set_option linter.unusedVariables false
set_option linter.unusedSimpArgs false

/-- a leaf that was met once -/
abbrev thC (k : Int) (ah : Option Addr) (ch : Nat) (s : ByteArray) : Array Value := #[.int .i64 k, .slice ah 0 ch, .string s, .int .i64 0, .int .i64 1, .int .i64 0, .bool false]
theorem cut1 {K : Go.Act → World → Prop} {F : Nat → World → Prop} {act : Nat → Go.Act} {G : Prop} (h1 : (∀ g V, F g V → K (act g) V) → G) (h2 : ∀ g V, F g V → K (act g) V) : G := h1 h2
theorem cut1v {K : Go.Act → World → Prop} {F : Nat → Option Addr → Nat → World → Prop} {act : Nat → Option Addr → Nat → Go.Act} {G : Prop} (h1 : (∀ g a c V, F g a c V → K (act g a c) V) → G) (h2 : ∀ g a c V, F g a c V → K (act g a c) V) : G := h1 h2
theorem info_thing : (Tryd.prog.info? 68).map (fun i => (i.zero, i.size, i.bytes)) = some (some (.agg #[.int .i64 0, .slice none 0 0, .string ⟨#[]⟩, .int .i64 0, .int .i64 0, .int .i64 0, .bool false]), 7, 80) := by kernel_rfl
theorem app_run {T E : TypeId} {z : Value} {sz by_ : Nat} (hT : Tryd.prog.underlying T = some (.slice E)) (hi : (Tryd.prog.info? E).map (fun i => (i.zero, i.size, i.bytes)) = some (some z, sz, by_)) (hz : z.cells.size = sz) (h1 : 0 < sz)
    {w : World} {bb m c : Nat} {ys : Array Value} (hn : Bl w bb ys E) (hm : ys.size = m * sz) (hone : ∀ u ∈ ys.toList, u.oneCell' = true) (hb : 1 ≤ m ∧ m ≤ 1000000) (hb2 : by_ ≤ 1000) :
    ∃ (g cap : Nat) (cur : Array Value) (w' : World), (Builtin.append_ #[T, T] T #[.slice none 0 0, .slice (some ⟨bb, 0, none⟩) m c]).run Tryd.prog w = .ok (.slice (some ⟨g, 0, none⟩) m cap) w' ∧ w.heap.size ≤ g ∧ Bl w' g cur E ∧ (∀ (j : Nat) (u : Value), ys[j]? = some u → cur[j]? = some u) ∧ Out 0 0 w w' := by
  obtain ⟨i0, hi0, hz0, hz1, hz2⟩ := info_p hi
  have hc : ∀ (j : Nat) u, ys.toList[j]? = some u → w.cell? ((⟨bb, 0, none⟩ : Addr).add j) = some u := by
    intro j u hj
    have := hn.cell (i := j) (v := u) (by simpa using hj)
    rw [Addr.add_lit, Nat.zero_add]; exact this
  obtain ⟨v', w', hrun, hown, hgrow, _⟩ := run_append_own (P := Tryd.prog) w w.heap.size T T E i0 z sz by_ hT hi0 hz0 hz1 hz2 hz h1 (.slice none 0 0) 0 [] (World.ownsRow_nil w _ E sz) ⟨bb, 0, none⟩ m c ys.toList (by simpa using hm) hc hone (by unfold maxLen; omega) (by
    calc (0 + m) * by_ ≤ 1000000 * 1000 := Nat.mul_le_mul (by omega) hb2
      _ ≤ _ := by decide) (Nat.le_refl _)
  have ho' : Out 0 0 w w' := ⟨hgrow.os, hgrow.tape, hgrow.output, hgrow.size, fun k h1 h2 => hgrow.block k h1 (fun e => by cases e)⟩
  obtain ⟨h1', h2⟩ := hown
  rcases h2 with ⟨e1, h2⟩ | ⟨g, cap, cur, rfl, h3, h4, h5, h6, h7, h8⟩
  · omega
  · rw [Nat.zero_add] at hrun
    refine ⟨g, cap, cur, w', hrun, h3, h4, fun j u hj => ?_, ho'⟩
    have hj' : ys.toList[j]? = some u := by simpa using hj
    rw [List.nil_append] at h8
    rw [← h8, List.getElem?_take] at hj'
    split at hj'
    · simpa using hj'
    · cases hj'
theorem app_up {T : TypeId} {o : Oper} {a : Go.Act} {K : Go.Act → World → Prop} {Q : Exit → Go.Act → World → Prop} {w w' : World} {sx xx : Operand} {v : Value} {bb m c : Nat} (hop : o.op = .call { callee := .builtin .append, args := #[sx, xx], argTypes := #[T, T] }) (ht : o.type = T) (hs : a.eval sx = .slice none 0 0) (hx : a.eval xx = .slice (some ⟨bb, 0, none⟩) m c)
    (hrun : (Builtin.append_ #[T, T] T #[.slice none 0 0, .slice (some ⟨bb, 0, none⟩) m c]).run Tryd.prog w = .ok v w') (h : K (a.put o.dst v) w') : Oper.wp Tryd.prog o a w K Q := by
  unfold Oper.wp
  simp [execOp, hop, ht, resolve, invoke, builtin, hs, hx, hrun, Result.andThen]
  exact h
theorem opaque_not {k : Int} {s : ByteArray} (h : opaque_ k = some s) : k ≠ 1 ∧ k ≠ 2 ∧ k ≠ 3 ∧ k ≠ 4 := by
  rcases opaque_cases h with ⟨rfl, _⟩ | ⟨rfl, _⟩ | ⟨rfl, _⟩ | ⟨rfl, _⟩ | ⟨rfl, _⟩ <;> decide
theorem cut2 {K : Go.Act → World → Prop} {F : Nat → Nat → World → Prop} {act : Nat → Nat → Go.Act} {G : Prop} (h1 : (∀ g h V, F g h V → K (act g h) V) → G) (h2 : ∀ g h V, F g h V → K (act g h) V) : G := h1 h2
set_option maxRecDepth 100000 in
set_option maxHeartbeats 8000000 in
/-- what a reference that was not met refers to: a leaf -/
theorem first_leaf {W : World} {p mb : Nat} {T : TypeId} {d : Value} {x i k n : Int} {s : ByteArray} {f0 : Int → Option Value} {a1 a2 a3 : Option Addr} {l1 l2 l3 c1 c2 c3 : Nat} (hk : opaque_ k = some s) (hn : 0 ≤ n ∧ n ≤ 500)
    (h : WK W p (.iface T d) (.map (some mb)) (.slice none 0 0) n) (hm : MpAt W mb f0) (hpm : p = mb + 1)
    (hA : ∀ W1, Out 0 0 W W1 → Calls Tryd.prog 36 #[.iface T d, .agg #[.int .i64 2, .int .i64 x]] W1 fun e' w' => e' = .returned (.tuple #[.agg #[.int .i64 i, .int .i64 k, .slice a1 l1 c1, .slice a2 l2 c2, .slice a3 l3 c3], .agg #[.int .i64 0, .int .i64 0]]) ∧ Out 0 0 W1 w') :
    Calls Tryd.prog 25 #[.pointer (some ⟨p, 0, none⟩), .agg #[.int .i64 2, .int .i64 x]] W fun e w' => (∃ a c, e = .returned (.tuple #[.slice a 0 c, .agg #[.int .i64 0, .int .i64 0]])) ∧
      ∃ (ah : Option Addr) (ch g cap : Nat) (cur : Array Value), W.heap.size ≤ g ∧ WK w' p (.iface T d) (.map (some mb)) (.slice (some ⟨g, 0, none⟩) 1 cap) n ∧ Bl w' g cur 68 ∧ (∀ (j : Nat) (u : Value), (thC k ah ch s)[j]? = some u → cur[j]? = some u) ∧ MpAt w' mb (fun y => if y = x then some (.int .i64 0) else f0 y) ∧ Out mb (mb + 2) W w' := by
  have HA := hid_mk hA
  have HH := hid_mk h
  have HM := hid_mk hm
  have HPM := hid_mk hpm
  obtain ⟨q, hq⟩ : ∃ g, W.heap.size = g := ⟨_, rfl⟩
  have hpl := h.lt
  clear hA h hm hpm
  go_enter Tryd.func25, Tryd.ntmps25
  go_wp2_with fail
  refine wp_named (fun W0 hW0 => ?_)
  have o0 : Out 0 0 W W0 := by rw [hW0]; exact ((Out.refl _ _ _).alloc _).alloc _
  have kW := HH.out.kept o0 (.inr (Nat.zero_le _))
  have kV : Bl W0 q #[.int .i64 2, .int .i64 x] 28 := by rw [hW0, ← hq]; exact (Bl.new _ _ _).alloc _
  have kF : Bl W0 (q + 1) #[.int .i64 0, .int .i64 0] 38 := by rw [hW0, ← hq, ← size_alloc W (.cells #[.int .i64 2, .int .i64 x] 28)]; exact Bl.new _ _ _
  have hs0 : W0.heap.size = q + 2 := by rw [hW0]; simp only [size_alloc]; omega
  rw [hq] at hpl
  clear hW0
  have HO0 := hid_mk o0
  have HK0 := hid_mk (And.intro kW (And.intro kV kF))
  have c0 := kW.cell (i := 0) rfl
  have v0 := kV.cell (i := 0) rfl
  have v1 := kV.cell (i := 1) rfl
  clear o0 kW kV kF
  rename_i K hK
  apply cut2 (K := K) (F := fun g6 g7 V => Bl V g6 #[.int .i64 i, .int .i64 k, .slice a1 l1 c1, .slice a2 l2 c2, .slice a3 l3 c3] 34 ∧ Bl V g7 #[.int .i64 0, .int .i64 0] 38 ∧ Out 0 0 W0 V ∧ q + 2 ≤ g6 ∧ q + 2 ≤ g7)
  case h1 =>
    intro HC
    obtain ⟨lim1, hlm1⟩ : ∃ l, W0.heap.size = l := ⟨_, rfl⟩
    refine wp_region_held_drew (S := fun w' => w'.cell? ⟨p, 0, none⟩ = some (.iface T d) ∧ w'.cell? ⟨q, 0, none⟩ = some (.int .i64 2) ∧ w'.cell? ⟨q, 1, none⟩ = some (.int .i64 x)) (by kernel_rfl) ?hS1 (fun hHeld => ?rest1)
    case hS1 => exact ⟨c0, v0, v1⟩
    obtain ⟨Z1, hZ⟩ : ∃ Z, W0.drew = Z := ⟨_, rfl⟩
    have oZ : Out 0 0 W0 Z1 := by rw [← hZ]; exact (Out.refl 0 0 _).drew
    have oo := oZ
    rw [hZ] at hHeld ⊢
    clear hZ oZ
    refine tk 0 ?_
    refine tk 1 ?_
    refine tk 2 ?_
    refine tk 3 ?_
    refine tk 4 ?_
    refine wpAnyH_ready (rs := [5, 9, 10]) (by kernel_rfl) (by simp) ?_
    refine AllReadyH.cons rfl (fun KK hK => ?_) ?_
    · simp only [xa, xb, xc]
      go_simp
      refine (HA.out _ (HO0.out.trans oo)).mono ?_
      rintro e Z1_5 ⟨rfl, q1⟩
      replace oo := oo.trans q1
      refine hK.out _ _ ?hS7 (fun hHeld2 => ?rest7)
      case hS7 => exact ⟨q1.cell hHeld.1 (.inr (Nat.zero_le _)), q1.cell hHeld.2.1 (.inr (Nat.zero_le _)), q1.cell hHeld.2.2 (.inr (Nat.zero_le _))⟩
      clear q1
      clear hK KK
      (try clear hHeld)
      have hHeld := hHeld2
      clear hHeld2
      (try simp only [Act.put, xa, xb, xc, xd, xe, xf])
      refine tk 6 ?_
      refine tk 7 ?_
      refine tk 8 ?_
      refine wpAnyH_ready (rs := [9, 10]) (by kernel_rfl) (by simp) ?_
      refine AllReadyH.cons rfl (fun KK hK => ?_) ?_
      · simp only [xa, xb, xc]
        go_simp
        obtain ⟨g6, hgf⟩ : ∃ g, Z1_5.heap.size = g := ⟨_, rfl⟩
        obtain ⟨Z1_5_9, hY⟩ : ∃ V, Z1_5.alloc (.cells #[.int .i64 0, .int .i64 0, .slice none 0 0, .slice none 0 0, .slice none 0 0] 34) = V := ⟨_, rfl⟩
        have qA : Out 0 0 Z1_5 Z1_5_9 := by rw [← hY]; exact (Out.refl 0 0 _).alloc _
        have f_g6 : Bl Z1_5_9 g6 #[.int .i64 0, .int .i64 0, .slice none 0 0, .slice none 0 0, .slice none 0 0] 34 := by rw [← hY, ← hgf]; exact Bl.new _ _ _
        have hl_g6 : lim1 ≤ g6 := by rw [← hgf, ← hlm1]; exact oo.size
        (try rw [hY])
        (try rw [hgf])
        clear hY hgf
        replace oo := oo.trans qA
        refine hK.out _ _ ?hS11 (fun hHeld2 => ?rest11)
        case hS11 => exact ⟨qA.cell hHeld.1 (.inr (Nat.zero_le _)), qA.cell hHeld.2.1 (.inr (Nat.zero_le _)), qA.cell hHeld.2.2 (.inr (Nat.zero_le _))⟩
        clear qA
        clear hK KK
        (try clear hHeld)
        have hHeld := hHeld2
        clear hHeld2
        (try simp only [Act.put, xa, xb, xc, xd, xe, xf])
        refine wpAnyH_ready (rs := [10]) (by kernel_rfl) (by simp) ?_
        refine AllReadyH.cons rfl (fun KK hK => ?_) ?_
        · simp only [xa, xb, xc]
          go_simp
          obtain ⟨g7, hgf⟩ : ∃ g, Z1_5_9.heap.size = g := ⟨_, rfl⟩
          obtain ⟨Z1_5_9_10, hY⟩ : ∃ V, Z1_5_9.alloc (.cells #[.int .i64 0, .int .i64 0] 38) = V := ⟨_, rfl⟩
          have qA : Out 0 0 Z1_5_9 Z1_5_9_10 := by rw [← hY]; exact (Out.refl 0 0 _).alloc _
          have f_g7 : Bl Z1_5_9_10 g7 #[.int .i64 0, .int .i64 0] 38 := by rw [← hY, ← hgf]; exact Bl.new _ _ _
          have hl_g7 : lim1 ≤ g7 := by rw [← hgf, ← hlm1]; exact oo.size
          have hn_g6_g7 : g6 < g7 := by rw [← hgf]; exact f_g6.lt
          (try rw [hY])
          (try rw [hgf])
          clear hY hgf
          replace f_g6 := f_g6.kept qA (.inr (Nat.zero_le _))
          replace oo := oo.trans qA
          refine hK.out _ _ ?hS12 (fun hHeld2 => ?rest12)
          case hS12 => exact ⟨qA.cell hHeld.1 (.inr (Nat.zero_le _)), qA.cell hHeld.2.1 (.inr (Nat.zero_le _)), qA.cell hHeld.2.2 (.inr (Nat.zero_le _))⟩
          clear qA
          clear hK KK
          (try clear hHeld)
          have hHeld := hHeld2
          clear hHeld2
          (try simp only [Act.put, xa, xb, xc, xd, xe, xf])
          refine wpAnyH_ready (rs := [11]) (by kernel_rfl) (by simp) ?_
          refine AllReadyH.cons rfl (fun KK hK => ?_) ?_
          · simp only [xa, xb, xc]
            have y0 := f_g6.cell (i := 0) rfl
            have z0 := f_g6.frozen 0
            have y1 := f_g6.cell (i := 1) rfl
            have z1 := f_g6.frozen 1
            have y2 := f_g6.cell (i := 2) rfl
            have z2 := f_g6.frozen 2
            have y3 := f_g6.cell (i := 3) rfl
            have z3 := f_g6.frozen 3
            have y4 := f_g6.cell (i := 4) rfl
            have z4 := f_g6.frozen 4
            go_simp
            clear y0 z0 y1 z1 y2 z2 y3 z3 y4 z4
            obtain ⟨Z1_5_9_10_11, hY⟩ : ∃ V, (((((Z1_5_9_10.setCell ⟨g6, 0, none⟩ (.int .i64 i)).setCell ⟨g6, 1, none⟩ (.int .i64 k)).setCell ⟨g6, 2, none⟩ (.slice a1 l1 c1)).setCell ⟨g6, 3, none⟩ (.slice a2 l2 c2)).setCell ⟨g6, 4, none⟩ (.slice a3 l3 c3)) = V := ⟨_, rfl⟩
            have qS : Out g6 (g6 + 1) Z1_5_9_10 Z1_5_9_10_11 := by rw [← hY]; exact (((((Out.refl _ _ _).setCell (p := ⟨g6, 0, none⟩) (.inl ⟨Nat.le_refl _, Nat.lt_succ_self _⟩) _).setCell (p := ⟨g6, 1, none⟩) (.inl ⟨Nat.le_refl _, Nat.lt_succ_self _⟩) _).setCell (p := ⟨g6, 2, none⟩) (.inl ⟨Nat.le_refl _, Nat.lt_succ_self _⟩) _).setCell (p := ⟨g6, 3, none⟩) (.inl ⟨Nat.le_refl _, Nat.lt_succ_self _⟩) _).setCell (p := ⟨g6, 4, none⟩) (.inl ⟨Nat.le_refl _, Nat.lt_succ_self _⟩) _
            replace f_g6 : Bl Z1_5_9_10_11 g6 #[.int .i64 i, .int .i64 k, .slice a1 l1 c1, .slice a2 l2 c2, .slice a3 l3 c3] 34 := by rw [← hY]; exact (((((f_g6.set 0 (.int .i64 i)).set 1 (.int .i64 k)).set 2 (.slice a1 l1 c1)).set 3 (.slice a2 l2 c2)).set 4 (.slice a3 l3 c3))
            (try rw [hY])
            clear hY
            replace f_g7 := f_g7.kept qS (by omega)
            replace oo := oo.past qS (by omega)
            refine hK.out _ _ ?hS13 (fun hHeld2 => ?rest13)
            case hS13 => exact ⟨qS.cell hHeld.1 (by omega), qS.cell hHeld.2.1 (by omega), qS.cell hHeld.2.2 (by omega)⟩
            clear qS
            clear hK KK
            (try clear hHeld)
            have hHeld := hHeld2
            clear hHeld2
            (try simp only [Act.put, xa, xb, xc, xd, xe, xf])
            refine wpAnyH_ready (rs := [12]) (by kernel_rfl) (by simp) ?_
            refine AllReadyH.cons rfl (fun KK hK => ?_) ?_
            · simp only [xa, xb, xc]
              have y0 := f_g7.cell (i := 0) rfl
              have z0 := f_g7.frozen 0
              have y1 := f_g7.cell (i := 1) rfl
              have z1 := f_g7.frozen 1
              go_simp
              clear y0 z0 y1 z1
              obtain ⟨Z1_5_9_10_11_12, hY⟩ : ∃ V, ((Z1_5_9_10_11.setCell ⟨g7, 0, none⟩ (.int .i64 0)).setCell ⟨g7, 1, none⟩ (.int .i64 0)) = V := ⟨_, rfl⟩
              have qS : Out g7 (g7 + 1) Z1_5_9_10_11 Z1_5_9_10_11_12 := by rw [← hY]; exact ((Out.refl _ _ _).setCell (p := ⟨g7, 0, none⟩) (.inl ⟨Nat.le_refl _, Nat.lt_succ_self _⟩) _).setCell (p := ⟨g7, 1, none⟩) (.inl ⟨Nat.le_refl _, Nat.lt_succ_self _⟩) _
              replace f_g7 : Bl Z1_5_9_10_11_12 g7 #[.int .i64 0, .int .i64 0] 38 := by rw [← hY]; exact ((f_g7.set 0 (.int .i64 0)).set 1 (.int .i64 0))
              (try rw [hY])
              clear hY
              replace f_g6 := f_g6.kept qS (by omega)
              replace oo := oo.past qS (by omega)
              refine hK.out _ _ ?hS14 (fun hHeld2 => ?rest14)
              case hS14 => exact ⟨qS.cell hHeld.1 (by omega), qS.cell hHeld.2.1 (by omega), qS.cell hHeld.2.2 (by omega)⟩
              clear qS
              clear hK KK
              (try clear hHeld)
              have hHeld := hHeld2
              clear hHeld2
              (try simp only [Act.put, xa, xb, xc, xd, xe, xf])
              refine wpAnyH_done (by kernel_rfl) ?_ _
              exact HC g6 g7 _ ⟨f_g6, f_g7, oo, by omega, by omega⟩
            · exact AllReadyH.nil
          · exact AllReadyH.nil
        · exact AllReadyH.nil
      · refine AllReadyH.cons rfl (fun KK hK => ?_) ?_
        · simp only [xa, xb, xc]
          go_simp
          obtain ⟨g7, hgf⟩ : ∃ g, Z1_5.heap.size = g := ⟨_, rfl⟩
          obtain ⟨Z1_5_10, hY⟩ : ∃ V, Z1_5.alloc (.cells #[.int .i64 0, .int .i64 0] 38) = V := ⟨_, rfl⟩
          have qA : Out 0 0 Z1_5 Z1_5_10 := by rw [← hY]; exact (Out.refl 0 0 _).alloc _
          have f_g7 : Bl Z1_5_10 g7 #[.int .i64 0, .int .i64 0] 38 := by rw [← hY, ← hgf]; exact Bl.new _ _ _
          have hl_g7 : lim1 ≤ g7 := by rw [← hgf, ← hlm1]; exact oo.size
          (try rw [hY])
          (try rw [hgf])
          clear hY hgf
          replace oo := oo.trans qA
          refine hK.out _ _ ?hS15 (fun hHeld2 => ?rest15)
          case hS15 => exact ⟨qA.cell hHeld.1 (.inr (Nat.zero_le _)), qA.cell hHeld.2.1 (.inr (Nat.zero_le _)), qA.cell hHeld.2.2 (.inr (Nat.zero_le _))⟩
          clear qA
          clear hK KK
          (try clear hHeld)
          have hHeld := hHeld2
          clear hHeld2
          (try simp only [Act.put, xa, xb, xc, xd, xe, xf])
          refine wpAnyH_ready (rs := [9]) (by kernel_rfl) (by simp) ?_
          refine AllReadyH.cons rfl (fun KK hK => ?_) ?_
          · simp only [xa, xb, xc]
            go_simp
            obtain ⟨g6, hgf⟩ : ∃ g, Z1_5_10.heap.size = g := ⟨_, rfl⟩
            obtain ⟨Z1_5_10_9, hY⟩ : ∃ V, Z1_5_10.alloc (.cells #[.int .i64 0, .int .i64 0, .slice none 0 0, .slice none 0 0, .slice none 0 0] 34) = V := ⟨_, rfl⟩
            have qA : Out 0 0 Z1_5_10 Z1_5_10_9 := by rw [← hY]; exact (Out.refl 0 0 _).alloc _
            have f_g6 : Bl Z1_5_10_9 g6 #[.int .i64 0, .int .i64 0, .slice none 0 0, .slice none 0 0, .slice none 0 0] 34 := by rw [← hY, ← hgf]; exact Bl.new _ _ _
            have hl_g6 : lim1 ≤ g6 := by rw [← hgf, ← hlm1]; exact oo.size
            have hn_g7_g6 : g7 < g6 := by rw [← hgf]; exact f_g7.lt
            (try rw [hY])
            (try rw [hgf])
            clear hY hgf
            replace f_g7 := f_g7.kept qA (.inr (Nat.zero_le _))
            replace oo := oo.trans qA
            refine hK.out _ _ ?hS16 (fun hHeld2 => ?rest16)
            case hS16 => exact ⟨qA.cell hHeld.1 (.inr (Nat.zero_le _)), qA.cell hHeld.2.1 (.inr (Nat.zero_le _)), qA.cell hHeld.2.2 (.inr (Nat.zero_le _))⟩
            clear qA
            clear hK KK
            (try clear hHeld)
            have hHeld := hHeld2
            clear hHeld2
            (try simp only [Act.put, xa, xb, xc, xd, xe, xf])
            refine wpAnyH_ready (rs := [11]) (by kernel_rfl) (by simp) ?_
            refine AllReadyH.cons rfl (fun KK hK => ?_) ?_
            · simp only [xa, xb, xc]
              have y0 := f_g6.cell (i := 0) rfl
              have z0 := f_g6.frozen 0
              have y1 := f_g6.cell (i := 1) rfl
              have z1 := f_g6.frozen 1
              have y2 := f_g6.cell (i := 2) rfl
              have z2 := f_g6.frozen 2
              have y3 := f_g6.cell (i := 3) rfl
              have z3 := f_g6.frozen 3
              have y4 := f_g6.cell (i := 4) rfl
              have z4 := f_g6.frozen 4
              go_simp
              clear y0 z0 y1 z1 y2 z2 y3 z3 y4 z4
              obtain ⟨Z1_5_10_9_11, hY⟩ : ∃ V, (((((Z1_5_10_9.setCell ⟨g6, 0, none⟩ (.int .i64 i)).setCell ⟨g6, 1, none⟩ (.int .i64 k)).setCell ⟨g6, 2, none⟩ (.slice a1 l1 c1)).setCell ⟨g6, 3, none⟩ (.slice a2 l2 c2)).setCell ⟨g6, 4, none⟩ (.slice a3 l3 c3)) = V := ⟨_, rfl⟩
              have qS : Out g6 (g6 + 1) Z1_5_10_9 Z1_5_10_9_11 := by rw [← hY]; exact (((((Out.refl _ _ _).setCell (p := ⟨g6, 0, none⟩) (.inl ⟨Nat.le_refl _, Nat.lt_succ_self _⟩) _).setCell (p := ⟨g6, 1, none⟩) (.inl ⟨Nat.le_refl _, Nat.lt_succ_self _⟩) _).setCell (p := ⟨g6, 2, none⟩) (.inl ⟨Nat.le_refl _, Nat.lt_succ_self _⟩) _).setCell (p := ⟨g6, 3, none⟩) (.inl ⟨Nat.le_refl _, Nat.lt_succ_self _⟩) _).setCell (p := ⟨g6, 4, none⟩) (.inl ⟨Nat.le_refl _, Nat.lt_succ_self _⟩) _
              replace f_g6 : Bl Z1_5_10_9_11 g6 #[.int .i64 i, .int .i64 k, .slice a1 l1 c1, .slice a2 l2 c2, .slice a3 l3 c3] 34 := by rw [← hY]; exact (((((f_g6.set 0 (.int .i64 i)).set 1 (.int .i64 k)).set 2 (.slice a1 l1 c1)).set 3 (.slice a2 l2 c2)).set 4 (.slice a3 l3 c3))
              (try rw [hY])
              clear hY
              replace f_g7 := f_g7.kept qS (by omega)
              replace oo := oo.past qS (by omega)
              refine hK.out _ _ ?hS17 (fun hHeld2 => ?rest17)
              case hS17 => exact ⟨qS.cell hHeld.1 (by omega), qS.cell hHeld.2.1 (by omega), qS.cell hHeld.2.2 (by omega)⟩
              clear qS
              clear hK KK
              (try clear hHeld)
              have hHeld := hHeld2
              clear hHeld2
              (try simp only [Act.put, xa, xb, xc, xd, xe, xf])
              refine wpAnyH_ready (rs := [12]) (by kernel_rfl) (by simp) ?_
              refine AllReadyH.cons rfl (fun KK hK => ?_) ?_
              · simp only [xa, xb, xc]
                have y0 := f_g7.cell (i := 0) rfl
                have z0 := f_g7.frozen 0
                have y1 := f_g7.cell (i := 1) rfl
                have z1 := f_g7.frozen 1
                go_simp
                clear y0 z0 y1 z1
                obtain ⟨Z1_5_10_9_11_12, hY⟩ : ∃ V, ((Z1_5_10_9_11.setCell ⟨g7, 0, none⟩ (.int .i64 0)).setCell ⟨g7, 1, none⟩ (.int .i64 0)) = V := ⟨_, rfl⟩
                have qS : Out g7 (g7 + 1) Z1_5_10_9_11 Z1_5_10_9_11_12 := by rw [← hY]; exact ((Out.refl _ _ _).setCell (p := ⟨g7, 0, none⟩) (.inl ⟨Nat.le_refl _, Nat.lt_succ_self _⟩) _).setCell (p := ⟨g7, 1, none⟩) (.inl ⟨Nat.le_refl _, Nat.lt_succ_self _⟩) _
                replace f_g7 : Bl Z1_5_10_9_11_12 g7 #[.int .i64 0, .int .i64 0] 38 := by rw [← hY]; exact ((f_g7.set 0 (.int .i64 0)).set 1 (.int .i64 0))
                (try rw [hY])
                clear hY
                replace f_g6 := f_g6.kept qS (by omega)
                replace oo := oo.past qS (by omega)
                refine hK.out _ _ ?hS18 (fun hHeld2 => ?rest18)
                case hS18 => exact ⟨qS.cell hHeld.1 (by omega), qS.cell hHeld.2.1 (by omega), qS.cell hHeld.2.2 (by omega)⟩
                clear qS
                clear hK KK
                (try clear hHeld)
                have hHeld := hHeld2
                clear hHeld2
                (try simp only [Act.put, xa, xb, xc, xd, xe, xf])
                refine wpAnyH_done (by kernel_rfl) ?_ _
                exact HC g6 g7 _ ⟨f_g6, f_g7, oo, by omega, by omega⟩
              · exact AllReadyH.nil
            · exact AllReadyH.nil
          · exact AllReadyH.nil
        · exact AllReadyH.nil
    · refine AllReadyH.cons rfl (fun KK hK => ?_) ?_
      · simp only [xa, xb, xc]
        go_simp
        obtain ⟨g6, hgf⟩ : ∃ g, Z1.heap.size = g := ⟨_, rfl⟩
        obtain ⟨Z1_9, hY⟩ : ∃ V, Z1.alloc (.cells #[.int .i64 0, .int .i64 0, .slice none 0 0, .slice none 0 0, .slice none 0 0] 34) = V := ⟨_, rfl⟩
        have qA : Out 0 0 Z1 Z1_9 := by rw [← hY]; exact (Out.refl 0 0 _).alloc _
        have f_g6 : Bl Z1_9 g6 #[.int .i64 0, .int .i64 0, .slice none 0 0, .slice none 0 0, .slice none 0 0] 34 := by rw [← hY, ← hgf]; exact Bl.new _ _ _
        have hl_g6 : lim1 ≤ g6 := by rw [← hgf, ← hlm1]; exact oo.size
        (try rw [hY])
        (try rw [hgf])
        clear hY hgf
        replace oo := oo.trans qA
        refine hK.out _ _ ?hS19 (fun hHeld2 => ?rest19)
        case hS19 => exact ⟨qA.cell hHeld.1 (.inr (Nat.zero_le _)), qA.cell hHeld.2.1 (.inr (Nat.zero_le _)), qA.cell hHeld.2.2 (.inr (Nat.zero_le _))⟩
        clear qA
        clear hK KK
        (try clear hHeld)
        have hHeld := hHeld2
        clear hHeld2
        (try simp only [Act.put, xa, xb, xc, xd, xe, xf])
        refine wpAnyH_ready (rs := [5, 10]) (by kernel_rfl) (by simp) ?_
        refine AllReadyH.cons rfl (fun KK hK => ?_) ?_
        · simp only [xa, xb, xc]
          go_simp
          refine (HA.out _ (HO0.out.trans oo)).mono ?_
          rintro e Z1_9_5 ⟨rfl, q1⟩
          replace f_g6 := f_g6.kept q1 (.inr (Nat.zero_le _))
          replace oo := oo.trans q1
          refine hK.out _ _ ?hS20 (fun hHeld2 => ?rest20)
          case hS20 => exact ⟨q1.cell hHeld.1 (.inr (Nat.zero_le _)), q1.cell hHeld.2.1 (.inr (Nat.zero_le _)), q1.cell hHeld.2.2 (.inr (Nat.zero_le _))⟩
          clear q1
          clear hK KK
          (try clear hHeld)
          have hHeld := hHeld2
          clear hHeld2
          (try simp only [Act.put, xa, xb, xc, xd, xe, xf])
          refine tk 6 ?_
          refine tk 7 ?_
          refine tk 8 ?_
          refine wpAnyH_ready (rs := [10]) (by kernel_rfl) (by simp) ?_
          refine AllReadyH.cons rfl (fun KK hK => ?_) ?_
          · simp only [xa, xb, xc]
            go_simp
            obtain ⟨g7, hgf⟩ : ∃ g, Z1_9_5.heap.size = g := ⟨_, rfl⟩
            obtain ⟨Z1_9_5_10, hY⟩ : ∃ V, Z1_9_5.alloc (.cells #[.int .i64 0, .int .i64 0] 38) = V := ⟨_, rfl⟩
            have qA : Out 0 0 Z1_9_5 Z1_9_5_10 := by rw [← hY]; exact (Out.refl 0 0 _).alloc _
            have f_g7 : Bl Z1_9_5_10 g7 #[.int .i64 0, .int .i64 0] 38 := by rw [← hY, ← hgf]; exact Bl.new _ _ _
            have hl_g7 : lim1 ≤ g7 := by rw [← hgf, ← hlm1]; exact oo.size
            have hn_g6_g7 : g6 < g7 := by rw [← hgf]; exact f_g6.lt
            (try rw [hY])
            (try rw [hgf])
            clear hY hgf
            replace f_g6 := f_g6.kept qA (.inr (Nat.zero_le _))
            replace oo := oo.trans qA
            refine hK.out _ _ ?hS24 (fun hHeld2 => ?rest24)
            case hS24 => exact ⟨qA.cell hHeld.1 (.inr (Nat.zero_le _)), qA.cell hHeld.2.1 (.inr (Nat.zero_le _)), qA.cell hHeld.2.2 (.inr (Nat.zero_le _))⟩
            clear qA
            clear hK KK
            (try clear hHeld)
            have hHeld := hHeld2
            clear hHeld2
            (try simp only [Act.put, xa, xb, xc, xd, xe, xf])
            refine wpAnyH_ready (rs := [11]) (by kernel_rfl) (by simp) ?_
            refine AllReadyH.cons rfl (fun KK hK => ?_) ?_
            · simp only [xa, xb, xc]
              have y0 := f_g6.cell (i := 0) rfl
              have z0 := f_g6.frozen 0
              have y1 := f_g6.cell (i := 1) rfl
              have z1 := f_g6.frozen 1
              have y2 := f_g6.cell (i := 2) rfl
              have z2 := f_g6.frozen 2
              have y3 := f_g6.cell (i := 3) rfl
              have z3 := f_g6.frozen 3
              have y4 := f_g6.cell (i := 4) rfl
              have z4 := f_g6.frozen 4
              go_simp
              clear y0 z0 y1 z1 y2 z2 y3 z3 y4 z4
              obtain ⟨Z1_9_5_10_11, hY⟩ : ∃ V, (((((Z1_9_5_10.setCell ⟨g6, 0, none⟩ (.int .i64 i)).setCell ⟨g6, 1, none⟩ (.int .i64 k)).setCell ⟨g6, 2, none⟩ (.slice a1 l1 c1)).setCell ⟨g6, 3, none⟩ (.slice a2 l2 c2)).setCell ⟨g6, 4, none⟩ (.slice a3 l3 c3)) = V := ⟨_, rfl⟩
              have qS : Out g6 (g6 + 1) Z1_9_5_10 Z1_9_5_10_11 := by rw [← hY]; exact (((((Out.refl _ _ _).setCell (p := ⟨g6, 0, none⟩) (.inl ⟨Nat.le_refl _, Nat.lt_succ_self _⟩) _).setCell (p := ⟨g6, 1, none⟩) (.inl ⟨Nat.le_refl _, Nat.lt_succ_self _⟩) _).setCell (p := ⟨g6, 2, none⟩) (.inl ⟨Nat.le_refl _, Nat.lt_succ_self _⟩) _).setCell (p := ⟨g6, 3, none⟩) (.inl ⟨Nat.le_refl _, Nat.lt_succ_self _⟩) _).setCell (p := ⟨g6, 4, none⟩) (.inl ⟨Nat.le_refl _, Nat.lt_succ_self _⟩) _
              replace f_g6 : Bl Z1_9_5_10_11 g6 #[.int .i64 i, .int .i64 k, .slice a1 l1 c1, .slice a2 l2 c2, .slice a3 l3 c3] 34 := by rw [← hY]; exact (((((f_g6.set 0 (.int .i64 i)).set 1 (.int .i64 k)).set 2 (.slice a1 l1 c1)).set 3 (.slice a2 l2 c2)).set 4 (.slice a3 l3 c3))
              (try rw [hY])
              clear hY
              replace f_g7 := f_g7.kept qS (by omega)
              replace oo := oo.past qS (by omega)
              refine hK.out _ _ ?hS25 (fun hHeld2 => ?rest25)
              case hS25 => exact ⟨qS.cell hHeld.1 (by omega), qS.cell hHeld.2.1 (by omega), qS.cell hHeld.2.2 (by omega)⟩
              clear qS
              clear hK KK
              (try clear hHeld)
              have hHeld := hHeld2
              clear hHeld2
              (try simp only [Act.put, xa, xb, xc, xd, xe, xf])
              refine wpAnyH_ready (rs := [12]) (by kernel_rfl) (by simp) ?_
              refine AllReadyH.cons rfl (fun KK hK => ?_) ?_
              · simp only [xa, xb, xc]
                have y0 := f_g7.cell (i := 0) rfl
                have z0 := f_g7.frozen 0
                have y1 := f_g7.cell (i := 1) rfl
                have z1 := f_g7.frozen 1
                go_simp
                clear y0 z0 y1 z1
                obtain ⟨Z1_9_5_10_11_12, hY⟩ : ∃ V, ((Z1_9_5_10_11.setCell ⟨g7, 0, none⟩ (.int .i64 0)).setCell ⟨g7, 1, none⟩ (.int .i64 0)) = V := ⟨_, rfl⟩
                have qS : Out g7 (g7 + 1) Z1_9_5_10_11 Z1_9_5_10_11_12 := by rw [← hY]; exact ((Out.refl _ _ _).setCell (p := ⟨g7, 0, none⟩) (.inl ⟨Nat.le_refl _, Nat.lt_succ_self _⟩) _).setCell (p := ⟨g7, 1, none⟩) (.inl ⟨Nat.le_refl _, Nat.lt_succ_self _⟩) _
                replace f_g7 : Bl Z1_9_5_10_11_12 g7 #[.int .i64 0, .int .i64 0] 38 := by rw [← hY]; exact ((f_g7.set 0 (.int .i64 0)).set 1 (.int .i64 0))
                (try rw [hY])
                clear hY
                replace f_g6 := f_g6.kept qS (by omega)
                replace oo := oo.past qS (by omega)
                refine hK.out _ _ ?hS26 (fun hHeld2 => ?rest26)
                case hS26 => exact ⟨qS.cell hHeld.1 (by omega), qS.cell hHeld.2.1 (by omega), qS.cell hHeld.2.2 (by omega)⟩
                clear qS
                clear hK KK
                (try clear hHeld)
                have hHeld := hHeld2
                clear hHeld2
                (try simp only [Act.put, xa, xb, xc, xd, xe, xf])
                refine wpAnyH_done (by kernel_rfl) ?_ _
                exact HC g6 g7 _ ⟨f_g6, f_g7, oo, by omega, by omega⟩
              · exact AllReadyH.nil
            · exact AllReadyH.nil
          · exact AllReadyH.nil
        · refine AllReadyH.cons rfl (fun KK hK => ?_) ?_
          · simp only [xa, xb, xc]
            go_simp
            obtain ⟨g7, hgf⟩ : ∃ g, Z1_9.heap.size = g := ⟨_, rfl⟩
            obtain ⟨Z1_9_10, hY⟩ : ∃ V, Z1_9.alloc (.cells #[.int .i64 0, .int .i64 0] 38) = V := ⟨_, rfl⟩
            have qA : Out 0 0 Z1_9 Z1_9_10 := by rw [← hY]; exact (Out.refl 0 0 _).alloc _
            have f_g7 : Bl Z1_9_10 g7 #[.int .i64 0, .int .i64 0] 38 := by rw [← hY, ← hgf]; exact Bl.new _ _ _
            have hl_g7 : lim1 ≤ g7 := by rw [← hgf, ← hlm1]; exact oo.size
            have hn_g6_g7 : g6 < g7 := by rw [← hgf]; exact f_g6.lt
            (try rw [hY])
            (try rw [hgf])
            clear hY hgf
            replace f_g6 := f_g6.kept qA (.inr (Nat.zero_le _))
            replace oo := oo.trans qA
            refine hK.out _ _ ?hS27 (fun hHeld2 => ?rest27)
            case hS27 => exact ⟨qA.cell hHeld.1 (.inr (Nat.zero_le _)), qA.cell hHeld.2.1 (.inr (Nat.zero_le _)), qA.cell hHeld.2.2 (.inr (Nat.zero_le _))⟩
            clear qA
            clear hK KK
            (try clear hHeld)
            have hHeld := hHeld2
            clear hHeld2
            (try simp only [Act.put, xa, xb, xc, xd, xe, xf])
            refine wpAnyH_ready (rs := [5]) (by kernel_rfl) (by simp) ?_
            refine AllReadyH.cons rfl (fun KK hK => ?_) ?_
            · simp only [xa, xb, xc]
              go_simp
              refine (HA.out _ (HO0.out.trans oo)).mono ?_
              rintro e Z1_9_10_5 ⟨rfl, q1⟩
              replace f_g6 := f_g6.kept q1 (.inr (Nat.zero_le _))
              replace f_g7 := f_g7.kept q1 (.inr (Nat.zero_le _))
              replace oo := oo.trans q1
              refine hK.out _ _ ?hS28 (fun hHeld2 => ?rest28)
              case hS28 => exact ⟨q1.cell hHeld.1 (.inr (Nat.zero_le _)), q1.cell hHeld.2.1 (.inr (Nat.zero_le _)), q1.cell hHeld.2.2 (.inr (Nat.zero_le _))⟩
              clear q1
              clear hK KK
              (try clear hHeld)
              have hHeld := hHeld2
              clear hHeld2
              (try simp only [Act.put, xa, xb, xc, xd, xe, xf])
              refine tk 6 ?_
              refine tk 7 ?_
              refine tk 8 ?_
              refine wpAnyH_ready (rs := [11]) (by kernel_rfl) (by simp) ?_
              refine AllReadyH.cons rfl (fun KK hK => ?_) ?_
              · simp only [xa, xb, xc]
                have y0 := f_g6.cell (i := 0) rfl
                have z0 := f_g6.frozen 0
                have y1 := f_g6.cell (i := 1) rfl
                have z1 := f_g6.frozen 1
                have y2 := f_g6.cell (i := 2) rfl
                have z2 := f_g6.frozen 2
                have y3 := f_g6.cell (i := 3) rfl
                have z3 := f_g6.frozen 3
                have y4 := f_g6.cell (i := 4) rfl
                have z4 := f_g6.frozen 4
                go_simp
                clear y0 z0 y1 z1 y2 z2 y3 z3 y4 z4
                obtain ⟨Z1_9_10_5_11, hY⟩ : ∃ V, (((((Z1_9_10_5.setCell ⟨g6, 0, none⟩ (.int .i64 i)).setCell ⟨g6, 1, none⟩ (.int .i64 k)).setCell ⟨g6, 2, none⟩ (.slice a1 l1 c1)).setCell ⟨g6, 3, none⟩ (.slice a2 l2 c2)).setCell ⟨g6, 4, none⟩ (.slice a3 l3 c3)) = V := ⟨_, rfl⟩
                have qS : Out g6 (g6 + 1) Z1_9_10_5 Z1_9_10_5_11 := by rw [← hY]; exact (((((Out.refl _ _ _).setCell (p := ⟨g6, 0, none⟩) (.inl ⟨Nat.le_refl _, Nat.lt_succ_self _⟩) _).setCell (p := ⟨g6, 1, none⟩) (.inl ⟨Nat.le_refl _, Nat.lt_succ_self _⟩) _).setCell (p := ⟨g6, 2, none⟩) (.inl ⟨Nat.le_refl _, Nat.lt_succ_self _⟩) _).setCell (p := ⟨g6, 3, none⟩) (.inl ⟨Nat.le_refl _, Nat.lt_succ_self _⟩) _).setCell (p := ⟨g6, 4, none⟩) (.inl ⟨Nat.le_refl _, Nat.lt_succ_self _⟩) _
                replace f_g6 : Bl Z1_9_10_5_11 g6 #[.int .i64 i, .int .i64 k, .slice a1 l1 c1, .slice a2 l2 c2, .slice a3 l3 c3] 34 := by rw [← hY]; exact (((((f_g6.set 0 (.int .i64 i)).set 1 (.int .i64 k)).set 2 (.slice a1 l1 c1)).set 3 (.slice a2 l2 c2)).set 4 (.slice a3 l3 c3))
                (try rw [hY])
                clear hY
                replace f_g7 := f_g7.kept qS (by omega)
                replace oo := oo.past qS (by omega)
                refine hK.out _ _ ?hS32 (fun hHeld2 => ?rest32)
                case hS32 => exact ⟨qS.cell hHeld.1 (by omega), qS.cell hHeld.2.1 (by omega), qS.cell hHeld.2.2 (by omega)⟩
                clear qS
                clear hK KK
                (try clear hHeld)
                have hHeld := hHeld2
                clear hHeld2
                (try simp only [Act.put, xa, xb, xc, xd, xe, xf])
                refine wpAnyH_ready (rs := [12]) (by kernel_rfl) (by simp) ?_
                refine AllReadyH.cons rfl (fun KK hK => ?_) ?_
                · simp only [xa, xb, xc]
                  have y0 := f_g7.cell (i := 0) rfl
                  have z0 := f_g7.frozen 0
                  have y1 := f_g7.cell (i := 1) rfl
                  have z1 := f_g7.frozen 1
                  go_simp
                  clear y0 z0 y1 z1
                  obtain ⟨Z1_9_10_5_11_12, hY⟩ : ∃ V, ((Z1_9_10_5_11.setCell ⟨g7, 0, none⟩ (.int .i64 0)).setCell ⟨g7, 1, none⟩ (.int .i64 0)) = V := ⟨_, rfl⟩
                  have qS : Out g7 (g7 + 1) Z1_9_10_5_11 Z1_9_10_5_11_12 := by rw [← hY]; exact ((Out.refl _ _ _).setCell (p := ⟨g7, 0, none⟩) (.inl ⟨Nat.le_refl _, Nat.lt_succ_self _⟩) _).setCell (p := ⟨g7, 1, none⟩) (.inl ⟨Nat.le_refl _, Nat.lt_succ_self _⟩) _
                  replace f_g7 : Bl Z1_9_10_5_11_12 g7 #[.int .i64 0, .int .i64 0] 38 := by rw [← hY]; exact ((f_g7.set 0 (.int .i64 0)).set 1 (.int .i64 0))
                  (try rw [hY])
                  clear hY
                  replace f_g6 := f_g6.kept qS (by omega)
                  replace oo := oo.past qS (by omega)
                  refine hK.out _ _ ?hS33 (fun hHeld2 => ?rest33)
                  case hS33 => exact ⟨qS.cell hHeld.1 (by omega), qS.cell hHeld.2.1 (by omega), qS.cell hHeld.2.2 (by omega)⟩
                  clear qS
                  clear hK KK
                  (try clear hHeld)
                  have hHeld := hHeld2
                  clear hHeld2
                  (try simp only [Act.put, xa, xb, xc, xd, xe, xf])
                  refine wpAnyH_done (by kernel_rfl) ?_ _
                  exact HC g6 g7 _ ⟨f_g6, f_g7, oo, by omega, by omega⟩
                · exact AllReadyH.nil
              · exact AllReadyH.nil
            · exact AllReadyH.nil
          · exact AllReadyH.nil
      · refine AllReadyH.cons rfl (fun KK hK => ?_) ?_
        · simp only [xa, xb, xc]
          go_simp
          obtain ⟨g7, hgf⟩ : ∃ g, Z1.heap.size = g := ⟨_, rfl⟩
          obtain ⟨Z1_10, hY⟩ : ∃ V, Z1.alloc (.cells #[.int .i64 0, .int .i64 0] 38) = V := ⟨_, rfl⟩
          have qA : Out 0 0 Z1 Z1_10 := by rw [← hY]; exact (Out.refl 0 0 _).alloc _
          have f_g7 : Bl Z1_10 g7 #[.int .i64 0, .int .i64 0] 38 := by rw [← hY, ← hgf]; exact Bl.new _ _ _
          have hl_g7 : lim1 ≤ g7 := by rw [← hgf, ← hlm1]; exact oo.size
          (try rw [hY])
          (try rw [hgf])
          clear hY hgf
          replace oo := oo.trans qA
          refine hK.out _ _ ?hS34 (fun hHeld2 => ?rest34)
          case hS34 => exact ⟨qA.cell hHeld.1 (.inr (Nat.zero_le _)), qA.cell hHeld.2.1 (.inr (Nat.zero_le _)), qA.cell hHeld.2.2 (.inr (Nat.zero_le _))⟩
          clear qA
          clear hK KK
          (try clear hHeld)
          have hHeld := hHeld2
          clear hHeld2
          (try simp only [Act.put, xa, xb, xc, xd, xe, xf])
          refine wpAnyH_ready (rs := [5, 9]) (by kernel_rfl) (by simp) ?_
          refine AllReadyH.cons rfl (fun KK hK => ?_) ?_
          · simp only [xa, xb, xc]
            go_simp
            refine (HA.out _ (HO0.out.trans oo)).mono ?_
            rintro e Z1_10_5 ⟨rfl, q1⟩
            replace f_g7 := f_g7.kept q1 (.inr (Nat.zero_le _))
            replace oo := oo.trans q1
            refine hK.out _ _ ?hS35 (fun hHeld2 => ?rest35)
            case hS35 => exact ⟨q1.cell hHeld.1 (.inr (Nat.zero_le _)), q1.cell hHeld.2.1 (.inr (Nat.zero_le _)), q1.cell hHeld.2.2 (.inr (Nat.zero_le _))⟩
            clear q1
            clear hK KK
            (try clear hHeld)
            have hHeld := hHeld2
            clear hHeld2
            (try simp only [Act.put, xa, xb, xc, xd, xe, xf])
            refine tk 6 ?_
            refine tk 7 ?_
            refine tk 8 ?_
            refine wpAnyH_ready (rs := [9]) (by kernel_rfl) (by simp) ?_
            refine AllReadyH.cons rfl (fun KK hK => ?_) ?_
            · simp only [xa, xb, xc]
              go_simp
              obtain ⟨g6, hgf⟩ : ∃ g, Z1_10_5.heap.size = g := ⟨_, rfl⟩
              obtain ⟨Z1_10_5_9, hY⟩ : ∃ V, Z1_10_5.alloc (.cells #[.int .i64 0, .int .i64 0, .slice none 0 0, .slice none 0 0, .slice none 0 0] 34) = V := ⟨_, rfl⟩
              have qA : Out 0 0 Z1_10_5 Z1_10_5_9 := by rw [← hY]; exact (Out.refl 0 0 _).alloc _
              have f_g6 : Bl Z1_10_5_9 g6 #[.int .i64 0, .int .i64 0, .slice none 0 0, .slice none 0 0, .slice none 0 0] 34 := by rw [← hY, ← hgf]; exact Bl.new _ _ _
              have hl_g6 : lim1 ≤ g6 := by rw [← hgf, ← hlm1]; exact oo.size
              have hn_g7_g6 : g7 < g6 := by rw [← hgf]; exact f_g7.lt
              (try rw [hY])
              (try rw [hgf])
              clear hY hgf
              replace f_g7 := f_g7.kept qA (.inr (Nat.zero_le _))
              replace oo := oo.trans qA
              refine hK.out _ _ ?hS39 (fun hHeld2 => ?rest39)
              case hS39 => exact ⟨qA.cell hHeld.1 (.inr (Nat.zero_le _)), qA.cell hHeld.2.1 (.inr (Nat.zero_le _)), qA.cell hHeld.2.2 (.inr (Nat.zero_le _))⟩
              clear qA
              clear hK KK
              (try clear hHeld)
              have hHeld := hHeld2
              clear hHeld2
              (try simp only [Act.put, xa, xb, xc, xd, xe, xf])
              refine wpAnyH_ready (rs := [11]) (by kernel_rfl) (by simp) ?_
              refine AllReadyH.cons rfl (fun KK hK => ?_) ?_
              · simp only [xa, xb, xc]
                have y0 := f_g6.cell (i := 0) rfl
                have z0 := f_g6.frozen 0
                have y1 := f_g6.cell (i := 1) rfl
                have z1 := f_g6.frozen 1
                have y2 := f_g6.cell (i := 2) rfl
                have z2 := f_g6.frozen 2
                have y3 := f_g6.cell (i := 3) rfl
                have z3 := f_g6.frozen 3
                have y4 := f_g6.cell (i := 4) rfl
                have z4 := f_g6.frozen 4
                go_simp
                clear y0 z0 y1 z1 y2 z2 y3 z3 y4 z4
                obtain ⟨Z1_10_5_9_11, hY⟩ : ∃ V, (((((Z1_10_5_9.setCell ⟨g6, 0, none⟩ (.int .i64 i)).setCell ⟨g6, 1, none⟩ (.int .i64 k)).setCell ⟨g6, 2, none⟩ (.slice a1 l1 c1)).setCell ⟨g6, 3, none⟩ (.slice a2 l2 c2)).setCell ⟨g6, 4, none⟩ (.slice a3 l3 c3)) = V := ⟨_, rfl⟩
                have qS : Out g6 (g6 + 1) Z1_10_5_9 Z1_10_5_9_11 := by rw [← hY]; exact (((((Out.refl _ _ _).setCell (p := ⟨g6, 0, none⟩) (.inl ⟨Nat.le_refl _, Nat.lt_succ_self _⟩) _).setCell (p := ⟨g6, 1, none⟩) (.inl ⟨Nat.le_refl _, Nat.lt_succ_self _⟩) _).setCell (p := ⟨g6, 2, none⟩) (.inl ⟨Nat.le_refl _, Nat.lt_succ_self _⟩) _).setCell (p := ⟨g6, 3, none⟩) (.inl ⟨Nat.le_refl _, Nat.lt_succ_self _⟩) _).setCell (p := ⟨g6, 4, none⟩) (.inl ⟨Nat.le_refl _, Nat.lt_succ_self _⟩) _
                replace f_g6 : Bl Z1_10_5_9_11 g6 #[.int .i64 i, .int .i64 k, .slice a1 l1 c1, .slice a2 l2 c2, .slice a3 l3 c3] 34 := by rw [← hY]; exact (((((f_g6.set 0 (.int .i64 i)).set 1 (.int .i64 k)).set 2 (.slice a1 l1 c1)).set 3 (.slice a2 l2 c2)).set 4 (.slice a3 l3 c3))
                (try rw [hY])
                clear hY
                replace f_g7 := f_g7.kept qS (by omega)
                replace oo := oo.past qS (by omega)
                refine hK.out _ _ ?hS40 (fun hHeld2 => ?rest40)
                case hS40 => exact ⟨qS.cell hHeld.1 (by omega), qS.cell hHeld.2.1 (by omega), qS.cell hHeld.2.2 (by omega)⟩
                clear qS
                clear hK KK
                (try clear hHeld)
                have hHeld := hHeld2
                clear hHeld2
                (try simp only [Act.put, xa, xb, xc, xd, xe, xf])
                refine wpAnyH_ready (rs := [12]) (by kernel_rfl) (by simp) ?_
                refine AllReadyH.cons rfl (fun KK hK => ?_) ?_
                · simp only [xa, xb, xc]
                  have y0 := f_g7.cell (i := 0) rfl
                  have z0 := f_g7.frozen 0
                  have y1 := f_g7.cell (i := 1) rfl
                  have z1 := f_g7.frozen 1
                  go_simp
                  clear y0 z0 y1 z1
                  obtain ⟨Z1_10_5_9_11_12, hY⟩ : ∃ V, ((Z1_10_5_9_11.setCell ⟨g7, 0, none⟩ (.int .i64 0)).setCell ⟨g7, 1, none⟩ (.int .i64 0)) = V := ⟨_, rfl⟩
                  have qS : Out g7 (g7 + 1) Z1_10_5_9_11 Z1_10_5_9_11_12 := by rw [← hY]; exact ((Out.refl _ _ _).setCell (p := ⟨g7, 0, none⟩) (.inl ⟨Nat.le_refl _, Nat.lt_succ_self _⟩) _).setCell (p := ⟨g7, 1, none⟩) (.inl ⟨Nat.le_refl _, Nat.lt_succ_self _⟩) _
                  replace f_g7 : Bl Z1_10_5_9_11_12 g7 #[.int .i64 0, .int .i64 0] 38 := by rw [← hY]; exact ((f_g7.set 0 (.int .i64 0)).set 1 (.int .i64 0))
                  (try rw [hY])
                  clear hY
                  replace f_g6 := f_g6.kept qS (by omega)
                  replace oo := oo.past qS (by omega)
                  refine hK.out _ _ ?hS41 (fun hHeld2 => ?rest41)
                  case hS41 => exact ⟨qS.cell hHeld.1 (by omega), qS.cell hHeld.2.1 (by omega), qS.cell hHeld.2.2 (by omega)⟩
                  clear qS
                  clear hK KK
                  (try clear hHeld)
                  have hHeld := hHeld2
                  clear hHeld2
                  (try simp only [Act.put, xa, xb, xc, xd, xe, xf])
                  refine wpAnyH_done (by kernel_rfl) ?_ _
                  exact HC g6 g7 _ ⟨f_g6, f_g7, oo, by omega, by omega⟩
                · exact AllReadyH.nil
              · exact AllReadyH.nil
            · exact AllReadyH.nil
          · refine AllReadyH.cons rfl (fun KK hK => ?_) ?_
            · simp only [xa, xb, xc]
              go_simp
              obtain ⟨g6, hgf⟩ : ∃ g, Z1_10.heap.size = g := ⟨_, rfl⟩
              obtain ⟨Z1_10_9, hY⟩ : ∃ V, Z1_10.alloc (.cells #[.int .i64 0, .int .i64 0, .slice none 0 0, .slice none 0 0, .slice none 0 0] 34) = V := ⟨_, rfl⟩
              have qA : Out 0 0 Z1_10 Z1_10_9 := by rw [← hY]; exact (Out.refl 0 0 _).alloc _
              have f_g6 : Bl Z1_10_9 g6 #[.int .i64 0, .int .i64 0, .slice none 0 0, .slice none 0 0, .slice none 0 0] 34 := by rw [← hY, ← hgf]; exact Bl.new _ _ _
              have hl_g6 : lim1 ≤ g6 := by rw [← hgf, ← hlm1]; exact oo.size
              have hn_g7_g6 : g7 < g6 := by rw [← hgf]; exact f_g7.lt
              (try rw [hY])
              (try rw [hgf])
              clear hY hgf
              replace f_g7 := f_g7.kept qA (.inr (Nat.zero_le _))
              replace oo := oo.trans qA
              refine hK.out _ _ ?hS42 (fun hHeld2 => ?rest42)
              case hS42 => exact ⟨qA.cell hHeld.1 (.inr (Nat.zero_le _)), qA.cell hHeld.2.1 (.inr (Nat.zero_le _)), qA.cell hHeld.2.2 (.inr (Nat.zero_le _))⟩
              clear qA
              clear hK KK
              (try clear hHeld)
              have hHeld := hHeld2
              clear hHeld2
              (try simp only [Act.put, xa, xb, xc, xd, xe, xf])
              refine wpAnyH_ready (rs := [5]) (by kernel_rfl) (by simp) ?_
              refine AllReadyH.cons rfl (fun KK hK => ?_) ?_
              · simp only [xa, xb, xc]
                go_simp
                refine (HA.out _ (HO0.out.trans oo)).mono ?_
                rintro e Z1_10_9_5 ⟨rfl, q1⟩
                replace f_g7 := f_g7.kept q1 (.inr (Nat.zero_le _))
                replace f_g6 := f_g6.kept q1 (.inr (Nat.zero_le _))
                replace oo := oo.trans q1
                refine hK.out _ _ ?hS43 (fun hHeld2 => ?rest43)
                case hS43 => exact ⟨q1.cell hHeld.1 (.inr (Nat.zero_le _)), q1.cell hHeld.2.1 (.inr (Nat.zero_le _)), q1.cell hHeld.2.2 (.inr (Nat.zero_le _))⟩
                clear q1
                clear hK KK
                (try clear hHeld)
                have hHeld := hHeld2
                clear hHeld2
                (try simp only [Act.put, xa, xb, xc, xd, xe, xf])
                refine tk 6 ?_
                refine tk 7 ?_
                refine tk 8 ?_
                refine wpAnyH_ready (rs := [11]) (by kernel_rfl) (by simp) ?_
                refine AllReadyH.cons rfl (fun KK hK => ?_) ?_
                · simp only [xa, xb, xc]
                  have y0 := f_g6.cell (i := 0) rfl
                  have z0 := f_g6.frozen 0
                  have y1 := f_g6.cell (i := 1) rfl
                  have z1 := f_g6.frozen 1
                  have y2 := f_g6.cell (i := 2) rfl
                  have z2 := f_g6.frozen 2
                  have y3 := f_g6.cell (i := 3) rfl
                  have z3 := f_g6.frozen 3
                  have y4 := f_g6.cell (i := 4) rfl
                  have z4 := f_g6.frozen 4
                  go_simp
                  clear y0 z0 y1 z1 y2 z2 y3 z3 y4 z4
                  obtain ⟨Z1_10_9_5_11, hY⟩ : ∃ V, (((((Z1_10_9_5.setCell ⟨g6, 0, none⟩ (.int .i64 i)).setCell ⟨g6, 1, none⟩ (.int .i64 k)).setCell ⟨g6, 2, none⟩ (.slice a1 l1 c1)).setCell ⟨g6, 3, none⟩ (.slice a2 l2 c2)).setCell ⟨g6, 4, none⟩ (.slice a3 l3 c3)) = V := ⟨_, rfl⟩
                  have qS : Out g6 (g6 + 1) Z1_10_9_5 Z1_10_9_5_11 := by rw [← hY]; exact (((((Out.refl _ _ _).setCell (p := ⟨g6, 0, none⟩) (.inl ⟨Nat.le_refl _, Nat.lt_succ_self _⟩) _).setCell (p := ⟨g6, 1, none⟩) (.inl ⟨Nat.le_refl _, Nat.lt_succ_self _⟩) _).setCell (p := ⟨g6, 2, none⟩) (.inl ⟨Nat.le_refl _, Nat.lt_succ_self _⟩) _).setCell (p := ⟨g6, 3, none⟩) (.inl ⟨Nat.le_refl _, Nat.lt_succ_self _⟩) _).setCell (p := ⟨g6, 4, none⟩) (.inl ⟨Nat.le_refl _, Nat.lt_succ_self _⟩) _
                  replace f_g6 : Bl Z1_10_9_5_11 g6 #[.int .i64 i, .int .i64 k, .slice a1 l1 c1, .slice a2 l2 c2, .slice a3 l3 c3] 34 := by rw [← hY]; exact (((((f_g6.set 0 (.int .i64 i)).set 1 (.int .i64 k)).set 2 (.slice a1 l1 c1)).set 3 (.slice a2 l2 c2)).set 4 (.slice a3 l3 c3))
                  (try rw [hY])
                  clear hY
                  replace f_g7 := f_g7.kept qS (by omega)
                  replace oo := oo.past qS (by omega)
                  refine hK.out _ _ ?hS47 (fun hHeld2 => ?rest47)
                  case hS47 => exact ⟨qS.cell hHeld.1 (by omega), qS.cell hHeld.2.1 (by omega), qS.cell hHeld.2.2 (by omega)⟩
                  clear qS
                  clear hK KK
                  (try clear hHeld)
                  have hHeld := hHeld2
                  clear hHeld2
                  (try simp only [Act.put, xa, xb, xc, xd, xe, xf])
                  refine wpAnyH_ready (rs := [12]) (by kernel_rfl) (by simp) ?_
                  refine AllReadyH.cons rfl (fun KK hK => ?_) ?_
                  · simp only [xa, xb, xc]
                    have y0 := f_g7.cell (i := 0) rfl
                    have z0 := f_g7.frozen 0
                    have y1 := f_g7.cell (i := 1) rfl
                    have z1 := f_g7.frozen 1
                    go_simp
                    clear y0 z0 y1 z1
                    obtain ⟨Z1_10_9_5_11_12, hY⟩ : ∃ V, ((Z1_10_9_5_11.setCell ⟨g7, 0, none⟩ (.int .i64 0)).setCell ⟨g7, 1, none⟩ (.int .i64 0)) = V := ⟨_, rfl⟩
                    have qS : Out g7 (g7 + 1) Z1_10_9_5_11 Z1_10_9_5_11_12 := by rw [← hY]; exact ((Out.refl _ _ _).setCell (p := ⟨g7, 0, none⟩) (.inl ⟨Nat.le_refl _, Nat.lt_succ_self _⟩) _).setCell (p := ⟨g7, 1, none⟩) (.inl ⟨Nat.le_refl _, Nat.lt_succ_self _⟩) _
                    replace f_g7 : Bl Z1_10_9_5_11_12 g7 #[.int .i64 0, .int .i64 0] 38 := by rw [← hY]; exact ((f_g7.set 0 (.int .i64 0)).set 1 (.int .i64 0))
                    (try rw [hY])
                    clear hY
                    replace f_g6 := f_g6.kept qS (by omega)
                    replace oo := oo.past qS (by omega)
                    refine hK.out _ _ ?hS48 (fun hHeld2 => ?rest48)
                    case hS48 => exact ⟨qS.cell hHeld.1 (by omega), qS.cell hHeld.2.1 (by omega), qS.cell hHeld.2.2 (by omega)⟩
                    clear qS
                    clear hK KK
                    (try clear hHeld)
                    have hHeld := hHeld2
                    clear hHeld2
                    (try simp only [Act.put, xa, xb, xc, xd, xe, xf])
                    refine wpAnyH_done (by kernel_rfl) ?_ _
                    exact HC g6 g7 _ ⟨f_g6, f_g7, oo, by omega, by omega⟩
                  · exact AllReadyH.nil
                · exact AllReadyH.nil
              · exact AllReadyH.nil
            · exact AllReadyH.nil
        · exact AllReadyH.nil
  case h2 =>
    rintro g6 g7 V1 ⟨kN, kG, o1, hg6, hg7⟩
    refine hK _ _ ?_
    have hnk := opaque_not hk
    have g0 := kG.cell (i := 0) rfl
    have hg6l := kN.lt
    have kN' := kN
    have n0 := kN.cell (i := 0) rfl
    have n1 := kN.cell (i := 1) rfl
    have n2 := kN.cell (i := 2) rfl
    have n3 := kN.cell (i := 3) rfl
    have n4 := kN.cell (i := 4) rfl
    have HO1 := hid_mk (HO0.out.trans o1)
    have HK1 := hid_mk (And.intro (HK0.out.1.kept o1 (.inr (Nat.zero_le _))) (And.intro (HK0.out.2.1.kept o1 (.inr (Nat.zero_le _))) (And.intro (HK0.out.2.2.kept o1 (.inr (Nat.zero_le _))) kN)))
    have HM1 := hid_mk (HM.out.kept (HO0.out.trans o1) (.inr (Nat.zero_le _)))
    have hs1 : q + 2 ≤ V1.heap.size := by have := o1.size; omega
    clear hK kN kN' kG c0 v0 v1 o1
    go_wp2_with fail
    rename_i K4 hK4
    apply cut1v (K := K4) (F := fun g8 ah ch V => Bl V g8 #[.int .i64 k, .slice ah 0 ch, .string ⟨#[]⟩, .int .i64 0, .int .i64 1, .int .i64 0, .bool false] 68 ∧ Out 0 0 V1 V ∧ q + 2 ≤ g8)
    case h1 =>
      intro HC
      obtain ⟨lim4, hlm4⟩ : ∃ l, V1.heap.size = l := ⟨_, rfl⟩
      refine wp_region_held_drew (S := fun w' => w'.cell? ⟨g6, 0, none⟩ = some (.int .i64 i) ∧ w'.cell? ⟨g6, 1, none⟩ = some (.int .i64 k) ∧ w'.cell? ⟨g6, 2, none⟩ = some (.slice a1 l1 c1) ∧ w'.cell? ⟨g6, 3, none⟩ = some (.slice a2 l2 c2) ∧ w'.cell? ⟨g6, 4, none⟩ = some (.slice a3 l3 c3)) (by kernel_rfl) ?hS49 (fun hHeld => ?rest49)
      case hS49 => exact ⟨n0, n1, n2, n3, n4⟩
      obtain ⟨Z4, hZ⟩ : ∃ Z, V1.drew = Z := ⟨_, rfl⟩
      have oZ : Out 0 0 V1 Z4 := by rw [← hZ]; exact (Out.refl 0 0 _).drew
      have oo := oZ
      rw [hZ] at hHeld ⊢
      clear hZ oZ
      refine tk 0 ?_
      refine tk 1 ?_
      refine tk 2 ?_
      refine wpAnyH_ready (rs := [3, 5]) (by kernel_rfl) (by simp) ?_
      refine AllReadyH.cons rfl (fun KK hK => ?_) ?_
      · simp only [xa, xb, xc]
        go_simp
        refine (held_none hnk.1 hnk.2.1 hnk.2.2.1).mono ?_
        rintro e Z4_3 ⟨⟨ah, ch, rfl⟩, q1⟩
        replace oo := oo.trans q1
        refine hK.out _ _ ?hS53 (fun hHeld2 => ?rest53)
        case hS53 => exact ⟨q1.cell hHeld.1 (.inr (Nat.zero_le _)), q1.cell hHeld.2.1 (.inr (Nat.zero_le _)), q1.cell hHeld.2.2.1 (.inr (Nat.zero_le _)), q1.cell hHeld.2.2.2.1 (.inr (Nat.zero_le _)), q1.cell hHeld.2.2.2.2 (.inr (Nat.zero_le _))⟩
        clear q1
        clear hK KK
        (try clear hHeld)
        have hHeld := hHeld2
        clear hHeld2
        (try simp only [Act.put, xa, xb, xc, xd, xe, xf])
        refine tk 4 ?_
        refine wpAnyH_ready (rs := [5]) (by kernel_rfl) (by simp) ?_
        refine AllReadyH.cons rfl (fun KK hK => ?_) ?_
        · simp only [xa, xb, xc]
          go_simp
          obtain ⟨g8, hgf⟩ : ∃ g, Z4_3.heap.size = g := ⟨_, rfl⟩
          obtain ⟨Z4_3_5, hY⟩ : ∃ V, Z4_3.alloc (.cells #[.int .i64 0, .slice none 0 0, .string ⟨#[]⟩, .int .i64 0, .int .i64 0, .int .i64 0, .bool false] 68) = V := ⟨_, rfl⟩
          have qA : Out 0 0 Z4_3 Z4_3_5 := by rw [← hY]; exact (Out.refl 0 0 _).alloc _
          have f_g8 : Bl Z4_3_5 g8 #[.int .i64 0, .slice none 0 0, .string ⟨#[]⟩, .int .i64 0, .int .i64 0, .int .i64 0, .bool false] 68 := by rw [← hY, ← hgf]; exact Bl.new _ _ _
          have hl_g8 : lim4 ≤ g8 := by rw [← hgf, ← hlm4]; exact oo.size
          (try rw [hY])
          (try rw [hgf])
          clear hY hgf
          replace oo := oo.trans qA
          refine hK.out _ _ ?hS55 (fun hHeld2 => ?rest55)
          case hS55 => exact ⟨qA.cell hHeld.1 (.inr (Nat.zero_le _)), qA.cell hHeld.2.1 (.inr (Nat.zero_le _)), qA.cell hHeld.2.2.1 (.inr (Nat.zero_le _)), qA.cell hHeld.2.2.2.1 (.inr (Nat.zero_le _)), qA.cell hHeld.2.2.2.2 (.inr (Nat.zero_le _))⟩
          clear qA
          clear hK KK
          (try clear hHeld)
          have hHeld := hHeld2
          clear hHeld2
          (try simp only [Act.put, xa, xb, xc, xd, xe, xf])
          refine wpAnyH_ready (rs := [6]) (by kernel_rfl) (by simp) ?_
          refine AllReadyH.cons rfl (fun KK hK => ?_) ?_
          · simp only [xa, xb, xc]
            have y0 := f_g8.cell (i := 0) rfl
            have z0 := f_g8.frozen 0
            have y1 := f_g8.cell (i := 1) rfl
            have z1 := f_g8.frozen 1
            have y2 := f_g8.cell (i := 2) rfl
            have z2 := f_g8.frozen 2
            have y3 := f_g8.cell (i := 3) rfl
            have z3 := f_g8.frozen 3
            have y4 := f_g8.cell (i := 4) rfl
            have z4 := f_g8.frozen 4
            have y5 := f_g8.cell (i := 5) rfl
            have z5 := f_g8.frozen 5
            have y6 := f_g8.cell (i := 6) rfl
            have z6 := f_g8.frozen 6
            go_simp
            clear y0 z0 y1 z1 y2 z2 y3 z3 y4 z4 y5 z5 y6 z6
            obtain ⟨Z4_3_5_6, hY⟩ : ∃ V, (((((((Z4_3_5.setCell ⟨g8, 0, none⟩ (.int .i64 k)).setCell ⟨g8, 1, none⟩ (.slice ah 0 ch)).setCell ⟨g8, 2, none⟩ (.string ⟨#[]⟩)).setCell ⟨g8, 3, none⟩ (.int .i64 0)).setCell ⟨g8, 4, none⟩ (.int .i64 1)).setCell ⟨g8, 5, none⟩ (.int .i64 0)).setCell ⟨g8, 6, none⟩ (.bool false)) = V := ⟨_, rfl⟩
            have qS : Out g8 (g8 + 1) Z4_3_5 Z4_3_5_6 := by rw [← hY]; exact (((((((Out.refl _ _ _).setCell (p := ⟨g8, 0, none⟩) (.inl ⟨Nat.le_refl _, Nat.lt_succ_self _⟩) _).setCell (p := ⟨g8, 1, none⟩) (.inl ⟨Nat.le_refl _, Nat.lt_succ_self _⟩) _).setCell (p := ⟨g8, 2, none⟩) (.inl ⟨Nat.le_refl _, Nat.lt_succ_self _⟩) _).setCell (p := ⟨g8, 3, none⟩) (.inl ⟨Nat.le_refl _, Nat.lt_succ_self _⟩) _).setCell (p := ⟨g8, 4, none⟩) (.inl ⟨Nat.le_refl _, Nat.lt_succ_self _⟩) _).setCell (p := ⟨g8, 5, none⟩) (.inl ⟨Nat.le_refl _, Nat.lt_succ_self _⟩) _).setCell (p := ⟨g8, 6, none⟩) (.inl ⟨Nat.le_refl _, Nat.lt_succ_self _⟩) _
            replace f_g8 : Bl Z4_3_5_6 g8 #[.int .i64 k, .slice ah 0 ch, .string ⟨#[]⟩, .int .i64 0, .int .i64 1, .int .i64 0, .bool false] 68 := by rw [← hY]; exact (((((((f_g8.set 0 (.int .i64 k)).set 1 (.slice ah 0 ch)).set 2 (.string ⟨#[]⟩)).set 3 (.int .i64 0)).set 4 (.int .i64 1)).set 5 (.int .i64 0)).set 6 (.bool false))
            (try rw [hY])
            clear hY
            replace oo := oo.past qS (by omega)
            refine hK.out _ _ ?hS56 (fun hHeld2 => ?rest56)
            case hS56 => exact ⟨qS.cell hHeld.1 (by omega), qS.cell hHeld.2.1 (by omega), qS.cell hHeld.2.2.1 (by omega), qS.cell hHeld.2.2.2.1 (by omega), qS.cell hHeld.2.2.2.2 (by omega)⟩
            clear qS
            clear hK KK
            (try clear hHeld)
            have hHeld := hHeld2
            clear hHeld2
            (try simp only [Act.put, xa, xb, xc, xd, xe, xf])
            refine wpAnyH_done (by kernel_rfl) ?_ _
            exact HC g8 ah ch _ ⟨f_g8, oo, by omega⟩
          · exact AllReadyH.nil
        · exact AllReadyH.nil
      · refine AllReadyH.cons rfl (fun KK hK => ?_) ?_
        · simp only [xa, xb, xc]
          go_simp
          obtain ⟨g8, hgf⟩ : ∃ g, Z4.heap.size = g := ⟨_, rfl⟩
          obtain ⟨Z4_5, hY⟩ : ∃ V, Z4.alloc (.cells #[.int .i64 0, .slice none 0 0, .string ⟨#[]⟩, .int .i64 0, .int .i64 0, .int .i64 0, .bool false] 68) = V := ⟨_, rfl⟩
          have qA : Out 0 0 Z4 Z4_5 := by rw [← hY]; exact (Out.refl 0 0 _).alloc _
          have f_g8 : Bl Z4_5 g8 #[.int .i64 0, .slice none 0 0, .string ⟨#[]⟩, .int .i64 0, .int .i64 0, .int .i64 0, .bool false] 68 := by rw [← hY, ← hgf]; exact Bl.new _ _ _
          have hl_g8 : lim4 ≤ g8 := by rw [← hgf, ← hlm4]; exact oo.size
          (try rw [hY])
          (try rw [hgf])
          clear hY hgf
          replace oo := oo.trans qA
          refine hK.out _ _ ?hS57 (fun hHeld2 => ?rest57)
          case hS57 => exact ⟨qA.cell hHeld.1 (.inr (Nat.zero_le _)), qA.cell hHeld.2.1 (.inr (Nat.zero_le _)), qA.cell hHeld.2.2.1 (.inr (Nat.zero_le _)), qA.cell hHeld.2.2.2.1 (.inr (Nat.zero_le _)), qA.cell hHeld.2.2.2.2 (.inr (Nat.zero_le _))⟩
          clear qA
          clear hK KK
          (try clear hHeld)
          have hHeld := hHeld2
          clear hHeld2
          (try simp only [Act.put, xa, xb, xc, xd, xe, xf])
          refine wpAnyH_ready (rs := [3]) (by kernel_rfl) (by simp) ?_
          refine AllReadyH.cons rfl (fun KK hK => ?_) ?_
          · simp only [xa, xb, xc]
            go_simp
            refine (held_none hnk.1 hnk.2.1 hnk.2.2.1).mono ?_
            rintro e Z4_5_3 ⟨⟨ah, ch, rfl⟩, q1⟩
            replace f_g8 := f_g8.kept q1 (.inr (Nat.zero_le _))
            replace oo := oo.trans q1
            refine hK.out _ _ ?hS58 (fun hHeld2 => ?rest58)
            case hS58 => exact ⟨q1.cell hHeld.1 (.inr (Nat.zero_le _)), q1.cell hHeld.2.1 (.inr (Nat.zero_le _)), q1.cell hHeld.2.2.1 (.inr (Nat.zero_le _)), q1.cell hHeld.2.2.2.1 (.inr (Nat.zero_le _)), q1.cell hHeld.2.2.2.2 (.inr (Nat.zero_le _))⟩
            clear q1
            clear hK KK
            (try clear hHeld)
            have hHeld := hHeld2
            clear hHeld2
            (try simp only [Act.put, xa, xb, xc, xd, xe, xf])
            refine tk 4 ?_
            refine wpAnyH_ready (rs := [6]) (by kernel_rfl) (by simp) ?_
            refine AllReadyH.cons rfl (fun KK hK => ?_) ?_
            · simp only [xa, xb, xc]
              have y0 := f_g8.cell (i := 0) rfl
              have z0 := f_g8.frozen 0
              have y1 := f_g8.cell (i := 1) rfl
              have z1 := f_g8.frozen 1
              have y2 := f_g8.cell (i := 2) rfl
              have z2 := f_g8.frozen 2
              have y3 := f_g8.cell (i := 3) rfl
              have z3 := f_g8.frozen 3
              have y4 := f_g8.cell (i := 4) rfl
              have z4 := f_g8.frozen 4
              have y5 := f_g8.cell (i := 5) rfl
              have z5 := f_g8.frozen 5
              have y6 := f_g8.cell (i := 6) rfl
              have z6 := f_g8.frozen 6
              go_simp
              clear y0 z0 y1 z1 y2 z2 y3 z3 y4 z4 y5 z5 y6 z6
              obtain ⟨Z4_5_3_6, hY⟩ : ∃ V, (((((((Z4_5_3.setCell ⟨g8, 0, none⟩ (.int .i64 k)).setCell ⟨g8, 1, none⟩ (.slice ah 0 ch)).setCell ⟨g8, 2, none⟩ (.string ⟨#[]⟩)).setCell ⟨g8, 3, none⟩ (.int .i64 0)).setCell ⟨g8, 4, none⟩ (.int .i64 1)).setCell ⟨g8, 5, none⟩ (.int .i64 0)).setCell ⟨g8, 6, none⟩ (.bool false)) = V := ⟨_, rfl⟩
              have qS : Out g8 (g8 + 1) Z4_5_3 Z4_5_3_6 := by rw [← hY]; exact (((((((Out.refl _ _ _).setCell (p := ⟨g8, 0, none⟩) (.inl ⟨Nat.le_refl _, Nat.lt_succ_self _⟩) _).setCell (p := ⟨g8, 1, none⟩) (.inl ⟨Nat.le_refl _, Nat.lt_succ_self _⟩) _).setCell (p := ⟨g8, 2, none⟩) (.inl ⟨Nat.le_refl _, Nat.lt_succ_self _⟩) _).setCell (p := ⟨g8, 3, none⟩) (.inl ⟨Nat.le_refl _, Nat.lt_succ_self _⟩) _).setCell (p := ⟨g8, 4, none⟩) (.inl ⟨Nat.le_refl _, Nat.lt_succ_self _⟩) _).setCell (p := ⟨g8, 5, none⟩) (.inl ⟨Nat.le_refl _, Nat.lt_succ_self _⟩) _).setCell (p := ⟨g8, 6, none⟩) (.inl ⟨Nat.le_refl _, Nat.lt_succ_self _⟩) _
              replace f_g8 : Bl Z4_5_3_6 g8 #[.int .i64 k, .slice ah 0 ch, .string ⟨#[]⟩, .int .i64 0, .int .i64 1, .int .i64 0, .bool false] 68 := by rw [← hY]; exact (((((((f_g8.set 0 (.int .i64 k)).set 1 (.slice ah 0 ch)).set 2 (.string ⟨#[]⟩)).set 3 (.int .i64 0)).set 4 (.int .i64 1)).set 5 (.int .i64 0)).set 6 (.bool false))
              (try rw [hY])
              clear hY
              replace oo := oo.past qS (by omega)
              refine hK.out _ _ ?hS60 (fun hHeld2 => ?rest60)
              case hS60 => exact ⟨qS.cell hHeld.1 (by omega), qS.cell hHeld.2.1 (by omega), qS.cell hHeld.2.2.1 (by omega), qS.cell hHeld.2.2.2.1 (by omega), qS.cell hHeld.2.2.2.2 (by omega)⟩
              clear qS
              clear hK KK
              (try clear hHeld)
              have hHeld := hHeld2
              clear hHeld2
              (try simp only [Act.put, xa, xb, xc, xd, xe, xf])
              refine wpAnyH_done (by kernel_rfl) ?_ _
              exact HC g8 ah ch _ ⟨f_g8, oo, by omega⟩
            · exact AllReadyH.nil
          · exact AllReadyH.nil
        · exact AllReadyH.nil
    case h2 =>
      rintro g8 ah ch V4 ⟨kT, o4, hg8⟩
      refine hK4 _ _ ?_
      have hd : decide (500 < n) = false := by simp; omega
      have k4 : (k == 4) = false := by simpa using hnk.2.2.2
      have hg8l := kT.lt
      obtain ⟨kW1, kV1, kF1, kN1⟩ := HK1.out
      have kN4 := kN1.kept o4 (.inr (Nat.zero_le _))
      have m0 := kN4.cell (i := 0) rfl
      have m1 := kN4.cell (i := 1) rfl
      have m2 := kN4.cell (i := 2) rfl
      have m3 := kN4.cell (i := 3) rfl
      have m4 := kN4.cell (i := 4) rfl
      have HK4 := hid_mk (And.intro (kW1.kept o4 (.inr (Nat.zero_le _))) (And.intro (kV1.kept o4 (.inr (Nat.zero_le _))) (And.intro (kF1.kept o4 (.inr (Nat.zero_le _))) kT)))
      have HM4 := hid_mk (HM1.out.kept o4 (.inr (Nat.zero_le _)))
      have HO4 := hid_mk (HO1.out.trans o4)
      have hs4 : q + 2 ≤ V4.heap.size := by have := o4.size; omega
      have HLf := hid_mk (fun W' => leaf_told (W := W') (i := i) (a1 := a1) (a2 := a2) (a3 := a3) (l1 := l1) (l2 := l2) (l3 := l3) (c1 := c1) (c2 := c2) (c3 := c3) hk)
      clear hK4 n0 n1 n2 n3 n4 g0 kW1 kV1 kF1 kN1 kN4 o4 kT
      go_wp2_with (first
        | (go_at_call 13; refine calls_same (tooLarge_at HK4.out.1 hd) ?_)
        | (go_at_call 38; refine (HLf.out _).mono ?_; rintro e w9 ⟨rfl, o9⟩; have t9 := HK4.out.2.2.2.kept o9 (.inr (Nat.zero_le _)); have e2 := t9.cell (i := 2) rfl; have z2 := t9.frozen 2))
      refine wp_named (fun W9 hW9 => ?_)
      have hpm := HPM.out
      have q9 : Out g8 (g8 + 1) w9 W9 := by rw [hW9]; exact (Out.refl _ _ _).setCell (.inl ⟨Nat.le_refl _, Nat.lt_succ_self _⟩) _
      have T9 : Bl W9 g8 #[.int .i64 k, .slice ah 0 ch, .string s, .int .i64 0, .int .i64 1, .int .i64 0, .bool false] 68 := by rw [hW9]; exact t9.set 2 _
      obtain ⟨kW4, kV4, kF4, _⟩ := HK4.out
      have W9k := (kW4.kept o9 (.inr (Nat.zero_le _))).kept q9 (.inl (by omega))
      have V9 := (kV4.kept o9 (.inr (Nat.zero_le _))).kept q9 (.inl (by omega))
      have F9 := (kF4.kept o9 (.inr (Nat.zero_le _))).kept q9 (.inl (by omega))
      have M9 := (HM4.out.kept o9 (.inr (Nat.zero_le _))).kept q9 (.inl (by omega))
      have O9 : Out 0 0 W W9 := (HO4.out.trans o9).past q9 (by rw [hq]; omega)
      have hs9 : q + 2 ≤ W9.heap.size := by have := q9.size; have := o9.size; omega
      have p1 := W9k.cell (i := 1) rfl
      have p2 := W9k.cell (i := 2) rfl
      have x1 := V9.cell (i := 1) rfl
      have HT9 := hid_mk T9
      have HK9 := hid_mk (And.intro W9k (And.intro V9 F9))
      have HM9 := hid_mk M9
      have HO9 := hid_mk O9
      clear hW9 q9 T9 kW4 kV4 kF4 W9k V9 F9 M9 O9 t9 e2 z2 o9 m0 m1 m2 m3 m4 hpm
      obtain ⟨lim10, hlm10⟩ : ∃ l, W9.heap.size = l := ⟨_, rfl⟩
      refine wp_region_held_drew (S := fun w' => w'.cell? ⟨p, 1, none⟩ = some (.map (some mb)) ∧ w'.cell? ⟨q, 1, none⟩ = some (.int .i64 x) ∧ w'.cell? ⟨p, 2, none⟩ = some (.slice none 0 0)) (by kernel_rfl) ?hS72 (fun hHeld => ?rest72)
      case hS72 => exact ⟨p1, x1, p2⟩
      obtain ⟨Z10, hZ⟩ : ∃ Z, W9.drew = Z := ⟨_, rfl⟩
      have oZ : Out 0 0 W9 Z10 := by rw [← hZ]; exact (Out.refl 0 0 _).drew
      have oo := oZ
      rw [hZ] at hHeld ⊢
      clear hZ oZ
      refine tk 0 ?_
      refine tk 1 ?_
      refine tk 2 ?_
      refine tk 3 ?_
      refine tk 4 ?_
      refine tk 5 ?_
      refine tk 6 ?_
      refine tk 7 ?_
      refine tk 8 ?_
      refine tk 9 ?_
      refine tk 10 ?_
      refine wpAnyH_ready (rs := [11]) (by kernel_rfl) (by simp) ?_
      refine AllReadyH.cons rfl (fun KK hK => ?_) ?_
      · simp only [xa, xb, xc]
        obtain ⟨Z10_11, hrun, m10, q1⟩ := mp_put Tryd.underlying43 Tryd.underlying3 (HM9.out.kept oo (.inr (Nat.zero_le _))) x (.int .i64 0)
        go_simp
        clear hrun
        refine hK.out _ _ ?hS84 (fun hHeld2 => ?rest84)
        case hS84 => exact ⟨q1.cell hHeld.1 (by have := HPM.out; omega), q1.cell hHeld.2.1 (by have := HPM.out; omega), q1.cell hHeld.2.2 (by have := HPM.out; omega)⟩
        clear hK KK
        (try clear hHeld)
        have hHeld := hHeld2
        clear hHeld2
        (try simp only [Act.put, xa, xb, xc, xd, xe, xf])
        refine wpAnyH_done (by kernel_rfl) ?_ _
        have q10 : Out mb (mb + 2) W9 Z10_11 := (oo.any _ _).trans (q1.wide (Nat.le_refl _) (Nat.le_succ _))
        have hpm := HPM.out
        have W10 := HK9.out.1.kept (oo.any mb (mb + 1) |>.trans q1) (.inr (by omega))
        have V10 := HK9.out.2.1.kept (oo.any mb (mb + 1) |>.trans q1) (.inr (by omega))
        have F10 := HK9.out.2.2.kept (oo.any mb (mb + 1) |>.trans q1) (.inr (by omega))
        have T10 := HT9.out.kept (oo.any mb (mb + 1) |>.trans q1) (.inr (by omega))
        have O10 : Out mb (mb + 2) W Z10_11 := (HO9.out.any _ _).trans q10
        have hs10 : q + 2 ≤ Z10_11.heap.size := by have := q10.size; omega
        have hg8m : g8 < Z10_11.heap.size := T10.lt
        have r2 := W10.cell (i := 2) rfl
        have u0 := T10.cell (i := 0) rfl
        have u1 := T10.cell (i := 1) rfl
        have u2 := T10.cell (i := 2) rfl
        have u3 := T10.cell (i := 3) rfl
        have u4 := T10.cell (i := 4) rfl
        have u5 := T10.cell (i := 5) rfl
        have u6 := T10.cell (i := 6) rfl
        have HK10 := hid_mk (And.intro W10 (And.intro V10 (And.intro F10 T10)))
        have HM10 := hid_mk m10
        have HO10 := hid_mk O10
        clear hHeld q10 q1 oo hpm W10 V10 F10 T10 O10 m10 p1 p2 x1 hlm10
        go_wp2_with fail
        refine wp_region_T (S := fun w' => w'.cell? ⟨p, 2, none⟩ = some (.slice none 0 0) ∧ w'.cell? ⟨g8, 0, none⟩ = some (.int .i64 k) ∧ w'.cell? ⟨g8, 1, none⟩ = some (.slice ah 0 ch) ∧ w'.cell? ⟨g8, 2, none⟩ = some (.string s) ∧ w'.cell? ⟨g8, 3, none⟩ = some (.int .i64 0) ∧ w'.cell? ⟨g8, 4, none⟩ = some (.int .i64 1) ∧ w'.cell? ⟨g8, 5, none⟩ = some (.int .i64 0) ∧ w'.cell? ⟨g8, 6, none⟩ = some (.bool false)) (z := 10) (by kernel_rfl) ?hS61 (fun hHeld => ?rest61)
        case hS61 => exact ⟨r2, u0, u1, u2, u3, u4, u5, u6⟩
        obtain ⟨lim11, hlm11⟩ : ∃ l, Z10_11.heap.size = l := ⟨_, rfl⟩
        obtain ⟨Z11, hZ⟩ : ∃ Z, Z10_11.drew = Z := ⟨_, rfl⟩
        have oo : Out 0 0 Z10_11 Z11 := by rw [← hZ]; exact (Out.refl 0 0 _).drew
        rw [hZ] at hHeld ⊢
        clear hZ
        refine tkT 0 ?_
        refine tkT 1 ?_
        refine tkT 2 ?_
        refine tkT 3 ?_
        refine tkT 4 ?_
        refine tkT 5 ?_
        refine wpAnyT_one (i := 6) (by kernel_rfl) rfl (fun KK hK => ?_)
        simp only [xa, xb, xc]
        go_simp
        obtain ⟨gb, hgf⟩ : ∃ g, Z11.heap.size = g := ⟨_, rfl⟩
        obtain ⟨Z11_6, hY⟩ : ∃ V, Z11.alloc (.cells #[.int .i64 k, .slice ah 0 ch, .string s, .int .i64 0, .int .i64 1, .int .i64 0, .bool false] 68) = V := ⟨_, rfl⟩
        have q1 : Out 0 0 Z11 Z11_6 := by rw [← hY]; exact (Out.refl 0 0 _).alloc _
        have f_gb : Bl Z11_6 gb #[.int .i64 k, .slice ah 0 ch, .string s, .int .i64 0, .int .i64 1, .int .i64 0, .bool false] 68 := by rw [← hY, ← hgf]; exact Bl.new _ _ _
        (try rw [hY])
        (try rw [hgf])
        clear hY hgf
        replace oo := oo.trans q1
        refine hK.out _ _ ?hS68 (fun hHeld2 => ?rest68)
        case hS68 => exact ⟨q1.cell hHeld.1 (.inr (Nat.zero_le _)), q1.cell hHeld.2.1 (.inr (Nat.zero_le _)), q1.cell hHeld.2.2.1 (.inr (Nat.zero_le _)), q1.cell hHeld.2.2.2.1 (.inr (Nat.zero_le _)), q1.cell hHeld.2.2.2.2.1 (.inr (Nat.zero_le _)), q1.cell hHeld.2.2.2.2.2.1 (.inr (Nat.zero_le _)), q1.cell hHeld.2.2.2.2.2.2.1 (.inr (Nat.zero_le _)), q1.cell hHeld.2.2.2.2.2.2.2 (.inr (Nat.zero_le _))⟩
        clear q1
        clear hK KK
        (try clear hHeld)
        have hHeld := hHeld2
        clear hHeld2
        (try simp only [Act.put, xa, xb, xc, xd, xe, xf])
        refine wpAnyT_one (i := 7) (by kernel_rfl) rfl (fun KK hK => ?_)
        obtain ⟨g, cap, cur, Z11_7, hrun, hgg, f_g, hcur, q1⟩ := app_run Tryd.underlying51 info_thing rfl (by decide) (c := 1) f_gb rfl (by intro u hu; simp at hu; rcases hu with rfl | rfl | rfl | rfl | rfl | rfl | rfl <;> rfl) (by decide) (by decide)
        rw [if_pos (by rfl)]
        refine app_up (K := KK) rfl rfl rfl rfl hrun ?_ -- app_stepR
        clear hrun
        have hgl : lim11 ≤ g := by rw [← hlm11]; exact Nat.le_trans oo.size hgg
        replace oo := oo.trans q1
        refine hK.out _ _ ?hS69 (fun hHeld2 => ?rest69)
        case hS69 => exact ⟨q1.cell hHeld.1 (.inr (Nat.zero_le _)), q1.cell hHeld.2.1 (.inr (Nat.zero_le _)), q1.cell hHeld.2.2.1 (.inr (Nat.zero_le _)), q1.cell hHeld.2.2.2.1 (.inr (Nat.zero_le _)), q1.cell hHeld.2.2.2.2.1 (.inr (Nat.zero_le _)), q1.cell hHeld.2.2.2.2.2.1 (.inr (Nat.zero_le _)), q1.cell hHeld.2.2.2.2.2.2.1 (.inr (Nat.zero_le _)), q1.cell hHeld.2.2.2.2.2.2.2 (.inr (Nat.zero_le _))⟩
        clear q1
        clear hK KK
        (try clear hHeld)
        have hHeld := hHeld2
        clear hHeld2
        (try simp only [Act.put, xa, xb, xc, xd, xe, xf])
        refine wpAnyT_one (i := 8) (by kernel_rfl) rfl (fun KK hK => ?_)
        simp only [xa, xb, xc]
        go_simp
        refine hK.out _ _ ?hS70 (fun hHeld2 => ?rest70)
        case hS70 => exact hHeld
        clear hK KK
        (try clear hHeld)
        have hHeld := hHeld2
        clear hHeld2
        (try simp only [Act.put, xa, xb, xc, xd, xe, xf])
        refine tkT 9 ?_
        refine wpAnyT_last (by kernel_rfl) rfl (fun KK hK => ?_)
        simp only [xa, xb, xc]
        have kp := HK10.out.1.kept oo (.inr (Nat.zero_le _))
        have y0 := kp.cell (i := 2) rfl
        have z0 := kp.frozen 2
        go_simp
        clear y0 z0
        obtain ⟨Z11_8, hY⟩ : ∃ V, Z11_7.setCell ⟨p, 2, none⟩ (.slice (some ⟨g, 0, none⟩) 1 cap) = V := ⟨_, rfl⟩
        have qS : Out p (p + 1) Z11_7 Z11_8 := by rw [← hY]; exact (Out.refl _ _ _).setCell (p := ⟨p, 2, none⟩) (.inl ⟨Nat.le_refl _, Nat.lt_succ_self _⟩) _
        have kp2 : WK Z11_8 p (.iface T d) (.map (some mb)) (.slice (some ⟨g, 0, none⟩) 1 cap) n := by rw [← hY]; exact kp.set 2 _
        (try rw [hY])
        clear hY
        refine hK.out _ _ ?_
        clear hK KK
        (try simp only [Act.put, xa, xb, xc, xd, xe, xf])
        refine wpAnyT_done (by kernel_rfl) ?_ _
        have hpm := HPM.out
        have hgl2 : q + 2 ≤ g := by omega
        have T11 := (HK10.out.2.2.2.kept oo (.inr (Nat.zero_le _))).kept qS (.inr (by omega))
        have F11 := (HK10.out.2.2.1.kept oo (.inr (Nat.zero_le _))).kept qS (.inr (by omega))
        have G11 := f_g.kept qS (.inr (by omega))
        have M11 := (HM10.out.kept oo (.inr (Nat.zero_le _))).kept qS (.inl (by omega))
        have O11 : Out mb (mb + 2) W Z11_8 := (HO10.out.trans (oo.any _ _)).trans (qS.wide (by omega) (by omega))
        have b0 := T11.cell (i := 1) rfl
        have d0 := F11.cell (i := 0) rfl
        have d1 := F11.cell (i := 1) rfl
        have d2 := F11.frozen 0
        have d3 := F11.frozen 1
        have HE := hid_mk (And.intro kp2 (And.intro F11 (And.intro G11 (And.intro M11 O11))))
        clear hpm T11 F11 G11 M11 O11 kp kp2 qS oo f_g f_gb r2 u0 u1 u2 u3 u4 u5 u6 hHeld
        go_wp2_with fail
        obtain ⟨e1, e2, e3, e4, e5⟩ := HE.out
        have hpm := HPM.out
        have oF : Out (q + 1) (q + 2) Z11_8 ((Z11_8.setCell ⟨q + 1, 0, none⟩ (.int .i64 0)).setCell ⟨q + 1, 1, none⟩ (.int .i64 0)) := ((Out.refl _ _ _).setCell (p := ⟨q + 1, 0, none⟩) (.inl ⟨Nat.le_refl _, Nat.lt_succ_self _⟩) _).setCell (p := ⟨q + 1, 1, none⟩) (.inl ⟨Nat.le_refl _, Nat.lt_succ_self _⟩) _
        exact retTF Tryd.results25 rfl rfl rfl ((e2.set 0 _).set 1 _) ⟨⟨ah, ch, rfl⟩, ah, ch, g, cap, cur, by rw [hq]; omega, e1.kept oF (.inl (by omega)), e3.kept oF (.inr (by omega)), hcur, e4.kept oF (.inl (by omega)), e5.past oF (by rw [hq]; omega)⟩
      · exact AllReadyH.nil
end Go.Proofs.YtmfnkhonghemeaaDoor
