import Derived.Test.YtapjfokkcgdhhaaDoorQar
import Derived.Test.YtapjfokkcgdhhaaDoorQal
import Derived.Test.YtapjfokkcgdhhaaDoorQaq
import Derived.Deep.Cut
namespace Go.Proofs.YtapjfokkcgdhhaaDoor
open Go.RowKit
set_option linter.unusedVariables false
set_option linter.unusedSimpArgs false

theorem cdl_nil {w : World} {lo : Nat} {v : Value} {l : List (Int × Int)} : CdL w lo [] v l ↔ ∃ a c, v = .slice a l.length c ∧ w.ownsRow lo 61 2 (.slice a l.length c) l.length (icl l) := by
  unfold CdL
  simp only [List.append_nil, List.length_nil, Nat.add_zero]
def CLs (w : World) (lo : Nat) (cs : List Value) (L : List (List (Int × Int))) : Prop := cs.length = L.length ∧ ∀ (j : Nat) c l, cs[j]? = some c → L[j]? = some l → CdL w lo [] c l
theorem CLs.fx {Q : Nat → Prop} {w w' : World} {lo : Nat} {cs : List Value} {L : List (List (Int × Int))} (h : CLs w lo cs L) (x : Fx Q w w') (hQ : ∀ k, RB cs k → ¬ Q k) : CLs w' lo cs L := ⟨h.1, fun j c l z1 z2 => (h.2 j c l z1 z2).fx x fun k hk => hQ k ⟨j, c, z1, hk⟩⟩
/-- lists of instructions of one's own, side by side, in a list of one's own -/
def RC (w : World) (lo : Nat) (ra : Option Addr) (n rk : Nat) (cs : List Value) (L : List (List (Int × Int))) : Prop := w.ownsRow lo 38 1 (.slice ra n rk) n cs ∧ CLs w lo cs L ∧ Ap cs
theorem icl_set : ∀ (l : List (Int × Int)) (j : Nat) (x : Int × Int), icl (l.set j x) = ((icl l).set (j * 2) (.int .i64 x.1)).set (j * 2 + 1) (.int .i64 x.2)
  | [], j, x => by simp [icl]
  | y :: l, 0, x => by simp [icl]
  | y :: l, j + 1, x => by
    simp only [List.set_cons_succ, icl]
    rw [icl_set l j x, show (j + 1) * 2 = j * 2 + 1 + 1 by omega]
    simp [List.set_cons_succ]
section
variable {w w' : World} {lo n rk : Nat} {ra : Option Addr} {cs : List Value} {L : List (List (Int × Int))} {i : Nat} {v : Value} {l : List (Int × Int)}
theorem RC.len (h : RC w lo ra n rk cs L) : cs.length = n ∧ L.length = n := by
  have h1 := h.1.1
  have h2 := h.2.1.1
  omega
theorem RC.quiet (h : RC w lo ra n rk cs L) (o : Out 0 0 w w') : RC w' lo ra n rk cs L := ⟨own_fx (S := fun _ => False) h.1 (Fx.of_out o) (fun _ _ q => q), h.2.1.fx (Q := fun _ => False) (Fx.of_out o) (fun _ _ q => q), h.2.2⟩
theorem RC.step {l' : List (Int × Int)} (h : RC w lo ra n rk cs L) (hv : cs[i]? = some v) (hl : L[i]? = some l) (hT : CdL w' lo [] v l') (x : Fx (fun k => v.ownBlock = some k) w w') : RC w' lo ra n rk cs (L.set i l') := by
  obtain ⟨h1, h2, h3⟩ := h
  have hTi := h2.2 i v l hv hl
  refine ⟨own_fx h1 x (fun k hk e => hTi.other h1 (by decide) e hk), ⟨by rw [List.length_set]; exact h2.1, fun j u t q1 q2 => ?_⟩, h3⟩
  by_cases hj : i = j
  · subst hj
    rw [List.getElem?_set_self (List.getElem?_eq_some_iff.1 hl).1] at q2
    cases q2
    rw [hv] at q1
    cases q1
    exact hT
  · rw [List.getElem?_set_ne hj] at q2
    exact (h2.2 j u t q1 q2).fx x (fun k hk e => h3 i j v u k hj hv q1 e hk)
theorem RC.same (h : RC w lo ra n rk cs L) (hv : cs[i]? = some v) (hl : L[i]? = some l) (hT : CdL w' lo [] v l) (x : Fx (fun k => v.ownBlock = some k) w w') : RC w' lo ra n rk cs L := by
  have := h.step hv hl hT x
  rwa [set_same hl] at this
theorem RC.put {g c j : Nat} {y : Int × Int} (h : RC w lo ra n rk cs L) (hv : cs[i]? = some (.slice (some ⟨g, 0, none⟩) l.length c)) (hl : L[i]? = some l) : RC ((w.setCell ⟨g, j * 2, none⟩ (.int .i64 y.1)).setCell ⟨g, j * 2 + 1, none⟩ (.int .i64 y.2)) lo ra n rk cs (L.set i (l.set j y)) := by
  obtain ⟨a, c', q1, q2⟩ := cdl_nil.1 (h.2.1.2 i _ l hv hl)
  cases q1
  refine h.step hv hl (cdl_nil.2 ⟨some ⟨g, 0, none⟩, c, by rw [List.length_set], ?_⟩) (((Fx.refl (fun k => (Value.slice (some ⟨g, 0, none⟩) l.length c).ownBlock = some k) w).set (p := ⟨g, j * 2, none⟩) (.inl rfl) _).set (p := ⟨g, j * 2 + 1, none⟩) (.inl rfl) _)
  rw [List.length_set, icl_set]
  exact own_put (own_put q2 (j * 2) (.int .i64 y.1)) (j * 2 + 1) (.int .i64 y.2)
theorem RC.row (h : RC w lo ra n rk cs L) (hi : i < n) : ∃ v l go a c, cs[i]? = some v ∧ L[i]? = some l ∧ ra = some ⟨go, 0, none⟩ ∧ v = .slice a l.length c ∧ w.cell? ⟨go, i, none⟩ = some (.slice a l.length c) ∧ w.ownsRow lo 61 2 (.slice a l.length c) l.length (icl l) := by
  obtain ⟨v, hv⟩ : ∃ v, cs[i]? = some v := ⟨_, List.getElem?_eq_getElem (by have := h.len; omega)⟩
  obtain ⟨l, hl⟩ : ∃ l, L[i]? = some l := ⟨_, List.getElem?_eq_getElem (by have := h.len; omega)⟩
  obtain ⟨go, cur, q1, q2, q3, -⟩ := own_cellsX h.1 (by omega)
  obtain ⟨a, c, q4, q5⟩ := cdl_nil.1 (h.2.1.2 i _ l hv hl)
  exact ⟨v, l, go, a, c, hv, hl, q1, q4, q4 ▸ q3 i v hv, q5⟩
end
theorem zc_one {z : Value} (hz : ∀ u ∈ z.cells.toList, u.oneCell' = true) (h0 : 0 < z.cells.size) {m : Nat} : ∀ u ∈ (Builtin.zeroCells z.cells m).toList, u.oneCell' = true := by
  intro u hu
  simp only [Builtin.zeroCells, Array.toList_map, List.mem_map] at hu
  obtain ⟨k, hk, rfl⟩ := hu
  refine hz _ ?_
  rw [getElem!_pos z.cells (k % z.cells.size) (Nat.mod_lt _ h0)]
  simp
theorem grow_code {w : World} {lo K cap m : Nat} {ta : Option Addr} {l : List (Int × Int)} (hown : w.ownsRow lo 61 2 (.slice ta K cap) K (icl l)) (hl : l.length = K) (hlo : lo ≤ w.heap.size) (hK : K ≤ 100000) (hm : 0 < m) (hm2 : m ≤ 1000) (ty : TypeId) :
    ∃ g cap' w', (Builtin.append_ #[38, 3] ty #[.slice ta K cap, .int .i64 (m : Int)]).run Tryd.prog w = .ok (.slice (some ⟨g, 0, none⟩) (K + m) cap') w' ∧ (∃ u1 u2, w'.cell? ⟨g, (K + m - 1) * 2, none⟩ = some u1 ∧ w'.cell? ⟨g, (K + m - 1) * 2 + 1, none⟩ = some u2) ∧ (∃ cur, Bl w' g cur 61) ∧ Fx (fun k => (Value.slice ta K cap).ownBlock = some k) w w' ∧ ∀ u1 u2, CdL ((w'.setCell ⟨g, (K + m - 1) * 2, none⟩ u1).setCell ⟨g, (K + m - 1) * 2 + 1, none⟩ u2) lo [] (.slice ta K cap) l ∧ Fx (fun k => (Value.slice ta K cap).ownBlock = some k) w ((w'.setCell ⟨g, (K + m - 1) * 2, none⟩ u1).setCell ⟨g, (K + m - 1) * 2 + 1, none⟩ u2) := by
  obtain ⟨g, cap', w', h1, h2, h3, h4, h5⟩ := zer_keep (T := 38) (I := 3) (m := m) Tryd.underlying38 Tryd.underlying3 info_in rfl (by decide) (by decide) (zc_one (by intro u hu; simp [Value.cells] at hu; rcases hu with rfl | rfl <;> rfl) (by decide)) hown hlo (by omega) hm hm2 ty
  have hlen := h2.1
  refine ⟨g, cap', w', h1, ?_, ?_, h4, fun u1 u2 => ⟨cdl_nil.2 ⟨ta, cap, by rw [hl], by rw [hl]; exact own_far (own_far h3 g _ (by omega) u1) g _ (by omega) u2⟩, (h4.set (p := ⟨g, (K + m - 1) * 2, none⟩) h5 u1).set (p := ⟨g, (K + m - 1) * 2 + 1, none⟩) h5 u2⟩⟩
  · obtain ⟨u1, hu1⟩ : ∃ u, (icl l ++ (Builtin.zeroCells (Value.agg #[.int .i64 0, .int .i64 0]).cells m).toList)[(K + m - 1) * 2]? = some u := ⟨_, List.getElem?_eq_getElem (by omega)⟩
    obtain ⟨u2, hu2⟩ : ∃ u, (icl l ++ (Builtin.zeroCells (Value.agg #[.int .i64 0, .int .i64 0]).cells m).toList)[(K + m - 1) * 2 + 1]? = some u := ⟨_, List.getElem?_eq_getElem (by omega)⟩
    exact ⟨u1, u2, own_at h2 hu1, own_at h2 hu2⟩
  · rcases h2.2 with ⟨h0, _⟩ | ⟨q, cap2, cur, h0, hg1, hg2, _⟩
    · cases h0
    · cases h0
      exact ⟨cur, hg2⟩
theorem cell_far {w : World} {g a b : Nat} {v u : Value} (h : w.cell? ⟨g, b, none⟩ = some u) (hab : a ≠ b) : (w.setCell ⟨g, a, none⟩ v).cell? ⟨g, b, none⟩ = some u := by
  refine Eq.trans ?_ h
  apply World.cell?_setCell_other
  intro q
  cases q
  exact hab rfl
theorem neq_insY (a b : Int) (W : World) : (binOp .neq 61 (.agg #[.int .i64 a, .int .i64 b]) (.agg #[.int .i64 a, .int .i64 b])).run Tryd.prog W = .ok (.bool false) W := by
  have := neq_ins a b a b W
  simpa using this
end Go.Proofs.YtapjfokkcgdhhaaDoor
namespace Go.Proofs.YtapjfokkcgdhhaaDoor
open Go.RowKit
set_option linter.unusedVariables false
set_option linter.unusedSimpArgs false

/-- the lists before the i-th are full of their marks -/
def Mcd (i : Nat) (L : List (List (Int × Int))) : Prop := ∀ (r : Nat) l, r < i → L[r]? = some l → ∀ (k : Nat) x, l[k]? = some x → x = (-(r : Int), (k : Int))
def Mc1 (i j : Nat) (l : List (Int × Int)) : Prop := ∀ (k : Nat) x, k < j → l[k]? = some x → x = (-(i : Int), (k : Int))
theorem Mcd.set {i : Nat} {L : List (List (Int × Int))} (h : Mcd i L) (l : List (Int × Int)) : Mcd i (L.set i l) := fun r l' hr hl => by
  rw [List.getElem?_set_ne (by omega)] at hl
  exact h r l' hr hl
theorem Mcd.up {i : Nat} {L : List (List (Int × Int))} {l : List (Int × Int)} (h : Mcd i L) (hl : L[i]? = some l) (h1 : Mc1 i l.length l) : Mcd (i + 1) L := fun r l' hr hl' k x hx => by
  by_cases hri : r = i
  · subst hri
    rw [hl] at hl'
    cases hl'
    exact h1 k x (List.getElem?_eq_some_iff.1 hx).1 hx
  · exact h r l' (by omega) hl' k x hx
theorem Mc1.set {i j : Nat} {l : List (Int × Int)} (h : Mc1 i j l) : Mc1 i (j + 1) (l.set j (-(i : Int), (j : Int))) := fun k x hk hx => by
  rw [List.getElem?_set] at hx
  split at hx
  · rename_i e
    subst e
    split at hx
    · cases hx; rfl
    · cases hx
  · exact h k x (by omega) hx
def C1 (w wr : World) (lo : Nat) (ra : Option Addr) (n rk : Nat) (cs : List Value) (L : List (List (Int × Int))) : Prop := RC wr lo ra n rk cs L ∧ Fx (RB cs) w wr ∧ (∀ l ∈ L, l.length ≤ 100000) ∧ n ≤ 100000
theorem C1.put {w wr : World} {lo : Nat} {ra : Option Addr} {n rk : Nat} {cs : List Value} {L : List (List (Int × Int))} {i g c j : Nat} {l : List (Int × Int)} {y : Int × Int} (h : C1 w wr lo ra n rk cs L) (hv : cs[i]? = some (.slice (some ⟨g, 0, none⟩) l.length c)) (hl : L[i]? = some l) : C1 w ((wr.setCell ⟨g, j * 2, none⟩ (.int .i64 y.1)).setCell ⟨g, j * 2 + 1, none⟩ (.int .i64 y.2)) lo ra n rk cs (L.set i (l.set j y)) := by
  refine ⟨h.1.put hv hl, (h.2.1.set (p := ⟨g, j * 2, none⟩) (.inl ⟨i, _, hv, rfl⟩) _).set (p := ⟨g, j * 2 + 1, none⟩) (.inl ⟨i, _, hv, rfl⟩) _, fun l' hl' => ?_, h.2.2.2⟩
  rcases List.mem_or_eq_of_mem_set hl' with q | rfl
  · exact h.2.2.1 l' q
  · rw [List.length_set]; exact h.2.2.1 l (List.mem_of_getElem? hl)
theorem C1.same {w wr w' : World} {lo : Nat} {ra : Option Addr} {n rk : Nat} {cs : List Value} {L : List (List (Int × Int))} {i : Nat} {v : Value} {l : List (Int × Int)} (h : C1 w wr lo ra n rk cs L) (hv : cs[i]? = some v) (hl : L[i]? = some l) (hT : CdL w' lo [] v l) (x : Fx (fun k => v.ownBlock = some k) wr w') : C1 w w' lo ra n rk cs L :=
  ⟨h.1.same hv hl hT x, h.2.1.trans (rb_wide hv x), h.2.2⟩
theorem C1.drew {w wr : World} {lo : Nat} {ra : Option Addr} {n rk : Nat} {cs : List Value} {L : List (List (Int × Int))} (h : C1 w wr lo ra n rk cs L) : C1 w wr.drew lo ra n rk cs L := ⟨h.1.quiet (Out.refl 0 0 wr).drew, h.2.1.drew, h.2.2⟩
theorem neg_w {i : Nat} (h : i ≤ 1000000) : wrap64 (-(i : Int)) = -(i : Int) := by unfold wrap64; omega
set_option maxRecDepth 100000 in
set_option maxHeartbeats 4000000 in
theorem codes_any {w : World} {lo n rk : Nat} {ra : Option Addr} {cs : List Value} {L0 : List (List (Int × Int))} (hlo : lo ≤ w.heap.size) (h0 : RC w lo ra n rk cs L0) (hl : ∀ l ∈ L0, l.length ≤ 100000) (hn : n ≤ 100000) :
    Calls Tryd.prog 17 #[.slice ra n rk] w fun e w' => e = .returned (.bool true) ∧ Fx (RB cs) w w' := by
  have HF : Hid (C1 w w lo ra n rk cs L0) := hid_mk ⟨h0, Fx.refl _ _, hl, hn⟩
  have HLO := hid_mk hlo
  clear h0 hl hn hlo
  go_enter Tryd.func17, Tryd.ntmps17
  go_wp2
  go_loopw [3] (fun c wr => ∃ (i : Nat) (L : List (List (Int × Int))), c = .int .i64 i ∧ i ≤ n ∧ C1 w wr lo ra n rk cs L ∧ Mcd i L) (fun c _ => n - (intOf c).toNat)
  case atStart => exact ⟨0, L0, rfl, Nat.zero_le _, HF.out, fun r l hr => by omega⟩
  case round =>
    obtain ⟨i, L, rfl, him, hF, hM⟩ := hrel
    by_cases hgo : i < n
    · obtain ⟨l1, l2⟩ := lt_d hgo
      have HI : Hid (i < n ∧ n ≤ 100000) := hid_mk ⟨hgo, hF.2.2.2⟩
      obtain ⟨v, l, go, a, c, hv, hli, rfl, rfl, c1, hown⟩ := hF.1.row hgo
      obtain ⟨m, hm⟩ : ∃ m, l.length = m := ⟨_, rfl⟩
      have HW : Hid (C1 w wr lo (some ⟨go, 0, none⟩) n rk cs L ∧ Mcd i L ∧ L[i]? = some l ∧ l.length = m ∧ cs[i]? = some (.slice a m c)) := hid_mk ⟨hF, hM, hli, hm, hm ▸ hv⟩
      have lmi : (i : Int) < (n : Int) := by omega
      obtain ⟨ni, hni⟩ : ∃ ni, -(i : Int) = ni := ⟨_, rfl⟩
      have hng : wrap64 (-(i : Int)) = ni := by rw [← hni]; exact neg_w (up_i HI.out.1 HI.out.2)
      have HNi := hid_mk hni
      clear hF hM hv hli hown hgo him c1 hm hni
      go_wp2
      go_loopw [4] (fun cj wz => ∃ (j : Nat) (L' : List (List (Int × Int))) (l' : List (Int × Int)), cj = .int .i64 j ∧ j ≤ m ∧ C1 w wz lo (some ⟨go, 0, none⟩) n rk cs L' ∧ Mcd i L' ∧ L'[i]? = some l' ∧ l'.length = m ∧ Mc1 i j l') (fun cj _ => m - (intOf cj).toNat)
      case atStart => exact ⟨0, L, l, rfl, Nat.zero_le _, HW.out.1, HW.out.2.1, HW.out.2.2.1, HW.out.2.2.2.1, fun k x hk => by omega⟩
      case round =>
        obtain ⟨j, L', l', rfl, hjm, hF, hM, hli, hm, hM1⟩ := hrel
        obtain ⟨v, l2, go2, a2, c2, hv, hli2, e2, e3, c1, hown⟩ := hF.1.row HI.out.1
        cases e2
        rw [hli] at hli2
        cases hli2
        rw [HW.out.2.2.2.2] at hv
        cases hv
        rw [hm] at e3 c1 hown
        cases e3
        have HJ : Hid (C1 w wr lo (some ⟨go, 0, none⟩) n rk cs L' ∧ Mcd i L' ∧ L'[i]? = some l' ∧ l'.length = m ∧ Mc1 i j l' ∧ m ≤ 100000) := hid_mk ⟨hF, hM, hli, hm, hM1, by have := hF.2.2.1 l' (List.mem_of_getElem? hli); omega⟩
        by_cases hgj : j < m
        · obtain ⟨p1, p2⟩ := lt_d hgj
          obtain ⟨g, cur, rfl, q1, q2, q3, -⟩ := own_cellsX hown (by omega)
          obtain ⟨y0, hy0⟩ : ∃ y, (icl l')[j * 2]? = some y := ⟨_, List.getElem?_eq_getElem (by rw [icl_len]; omega)⟩
          obtain ⟨y1, hy1⟩ : ∃ y, (icl l')[j * 2 + 1]? = some y := ⟨_, List.getElem?_eq_getElem (by rw [icl_len]; omega)⟩
          have c2 := q2 (j * 2) y0 hy0
          have f2 := q3.frozen (j * 2)
          have q4 := q3.set (j * 2) (.int .i64 ni)
          have c3 : (wr.setCell ⟨g, j * 2, none⟩ (.int .i64 ni)).cell? ⟨g, j * 2 + 1, none⟩ = some y1 := by
            have h5 := own_put hown (j * 2) (.int .i64 ni)
            refine own_at h5 ?_
            rw [List.getElem?_set_ne (by omega)]
            exact hy1
          have f3 := q4.frozen (j * 2 + 1)
          have c3' := q2 (j * 2 + 1) y1 hy1
          have f3' := q3.frozen (j * 2 + 1)
          have lmj : (j : Int) < (m : Int) := by omega
          have HJ2 : Hid (j < m) := hid_mk hgj
          have hF6 := HJ.out.1.put (j := j) (y := (ni, (j : Int))) (by rw [HJ.out.2.2.2.1]; exact HW.out.2.2.2.2) HJ.out.2.2.1
          have HF6 := hid_mk hF6
          clear hF hM hli hm hM1 hown q1 q2 q3 q4 hy0 hy1 hgj hjm l1 l2 hF6
          go_wp2
          obtain ⟨-, hM, hli, hm, hM1, hm1⟩ := HJ.out
          exact ⟨⟨j + 1, _, _, up_V HJ2.out (by omega), HJ2.out, HF6.out, hM.set _, List.getElem?_set_self (List.getElem?_eq_some_iff.1 hli).1, by rw [List.length_set]; exact hm, by rw [← HNi.out]; exact hM1.set⟩, by rw [up_W HJ2.out (by omega)]; exact ms_N HJ2.out⟩
        · obtain rfl : m = j := by omega
          have p1 : decide ((m : Int) < (m : Int)) = false := by simp
          clear hF hM hli hM1 hown hgj hjm l1 l2 hm
          go_wp2
          exact ⟨⟨i + 1, L', up_V HI.out.1 (by have := HI.out; omega), HI.out.1, HJ.out.1, HJ.out.2.1.up HJ.out.2.2.1 (by rw [HJ.out.2.2.2.1]; exact HJ.out.2.2.2.2.1)⟩, by rw [up_W HI.out.1 (by have := HI.out; omega)]; exact ms_N HI.out.1⟩
    · obtain rfl : n = i := by omega
      have l1 : decide ((n : Int) < (n : Int)) = false := by simp
      have HW : Hid (C1 w wr lo ra n rk cs L ∧ Mcd n L) := hid_mk ⟨hF, hM⟩
      clear hgo hF hM him
      go_wp2
      go_loopw [5] (fun c wr => ∃ (i : Nat), c = .int .i64 i ∧ i ≤ n ∧ C1 w wr lo ra n rk cs L) (fun c _ => n - (intOf c).toNat)
      case atStart => exact ⟨0, rfl, Nat.zero_le _, HW.out.1⟩
      case round =>
        obtain ⟨i, rfl, him, hF⟩ := hrel
        by_cases hgo : i < n
        · obtain ⟨l1, l2⟩ := lt_d hgo
          have HI : Hid (i < n ∧ n ≤ 100000) := hid_mk ⟨hgo, hF.2.2.2⟩
          have HFi := hid_mk hF
          clear hF hgo him
          go_wp2
          go_loopw [6] (fun c wr => ∃ (g : Nat), c = .int .i64 g ∧ 1 ≤ g ∧ g ≤ 18 ∧ C1 w wr lo ra n rk cs L) (fun c _ => 18 - (intOf c).toNat)
          case atStart => exact ⟨1, rfl, by omega, by omega, HFi.out⟩
          case round =>
            obtain ⟨g, rfl, hg1, hg2, hF⟩ := hrel
            by_cases hgg : g ≤ 17
            · have p1 := le_d hgg
              obtain ⟨v, l, go, a, c, hv, hli, rfl, rfl, c1, hown⟩ := hF.1.row HI.out.1
              obtain ⟨K, hK⟩ : ∃ K, l.length = K := ⟨_, rfl⟩
              have lmi : (i : Int) < (n : Int) := by have := HI.out.1; omega
              have hTi := hF.1.2.1.2 i _ l hv hli
              have hK1 : K ≤ 100000 := by have := hF.2.2.1 l (List.mem_of_getElem? hli); omega
              have hgo : (Value.slice a l.length c).ownBlock ≠ some go := fun e => hTi.other hF.1.1 (by decide) e rfl
              rw [hK] at hgo
              obtain ⟨G, hG⟩ : ∃ G, grV g = G := ⟨_, rfl⟩
              obtain ⟨hG1, hG2⟩ := gr_b hg1
              rw [hG] at hG1 hG2
              obtain ⟨N, hN⟩ : ∃ N, K + G = N := ⟨_, rfl⟩
              obtain ⟨e, he⟩ : ∃ e, K + G - 1 = e := ⟨_, rfl⟩
              obtain ⟨g4, cap4, w6, hr, ⟨u1, u2, cu1, cu2⟩, ⟨cur, hbl⟩, x6, hst⟩ := grow_code (w := wr.drew) (m := G) (by rw [hK] at hown; exact own_fx (S := fun _ => False) hown (Fx.of_out (Out.refl 0 0 wr).drew) (fun _ _ q => q)) hK (Nat.le_trans HLO.out hF.2.1.size) hK1 hG1 hG2 38
              have d1 : w6.cell? ⟨go, i, none⟩ = some (.slice a K c) := by
                refine x6.cell (b := go) (o := i) ?_ hgo
                rw [hK] at c1
                exact c1
              rw [hK] at c1
              rw [hN] at hr
              rw [he] at cu1 cu2 hst
              have fu1 := hbl.frozen (e * 2)
              have bl2 := hbl.set (e * 2) (.int .i64 9)
              have fu2 := bl2.frozen (e * 2 + 1)
              have cu3 : (w6.setCell ⟨g4, e * 2, none⟩ (.int .i64 9)).cell? ⟨g4, e * 2 + 1, none⟩ = some u2 := cell_far cu2 (by omega)
              have fu2' := hbl.frozen (e * 2 + 1)
              have hsub := sub_1 (N := N) (e := e) (by omega) (by omega)
              have lt : (e : Int) < (N : Int) := by omega
              have hF6 := hF.drew.same hv hli (by rw [hK]; exact (hst (.int .i64 9) (.int .i64 0)).1) (by rw [hK]; exact (hst (.int .i64 9) (.int .i64 0)).2)
              have HF6 := hid_mk hF6
              have HR := hid_mk hr
              have HGr := hid_mk (fun V : World => hG ▸ grows_any V g)
              have HG : Hid (1 ≤ g ∧ g ≤ 17) := hid_mk ⟨hg1, hgg⟩
              have HX6 : Hid (w6.cell? ⟨go, i, none⟩ = some (.slice a K c)) := hid_mk d1
              have HCU := hid_mk (And.intro cu1 (And.intro fu1 (And.intro cu3 (And.intro fu2 (And.intro cu2 fu2')))))
              have HSU := hid_mk hsub
              clear hF hv hli hown hTi hK1 hgo hG hG1 hG2 hN he hr cu1 cu2 cu3 fu1 fu2 fu2' bl2 hbl x6 hst d1 hsub hF6 hg1 hg2 hgg hK l1 l2
              go_wp2_with fail
              obtain ⟨V3, hV3⟩ : ∃ V3, wr.drew = V3 := ⟨_, rfl⟩
              rw [hV3] at HR
              refine wp_region_held_drew (S := fun w' => w'.cell? ⟨go, i, none⟩ = some (.slice a K c)) (by kernel_rfl) ?hS1 (fun hHeld => ?rest1)
              case hS1 => exact c1
              refine tk 0 ?_
              refine tk 1 ?_
              refine tk 2 ?_
              refine tk 3 ?_
              refine tk 4 ?_
              refine wpAnyH_ready (rs := [5]) (by kernel_rfl) (by simp) ?_
              refine AllReadyH.cons rfl (fun KK hK => ?_) AllReadyH.nil
              simp only [xa, xb, xc]
              go_simp
              refine calls_same (HGr.out _) ?_
              refine hK.out _ _ ?hS7 (fun hHeld2 => ?rest7)
              case hS7 => exact (by rw [← hV3]; exact c1)
              clear hK KK
              (try clear hHeld)
              have hHeld := hHeld2
              clear hHeld2
              (try simp only [Act.put, xa, xb, xc, xd, xe, xf])
              refine wpAnyH_ready (rs := [6]) (by kernel_rfl) (by simp) ?_
              refine AllReadyH.cons rfl (fun KK hK => ?_) AllReadyH.nil
              simp only [xa, xb, xc]
              refine app_sr V3 _ _ _ _ rfl _ _ rfl rfl HR.out ?_
              refine hK.out _ _ ?hS8 (fun hHeld2 => ?rest8)
              case hS8 => exact HX6.out
              clear hK KK
              (try clear hHeld)
              have hHeld := hHeld2
              clear hHeld2
              (try simp only [Act.put, xa, xb, xc, xd, xe, xf])
              refine tk 7 ?_
              refine wpAnyH_done (by kernel_rfl) ?_ _
              obtain ⟨cu1, fu1, cu3, fu2, cu2, fu2'⟩ := HCU.out
              have hsub := HSU.out
              clear hHeld hV3 HR HGr c1 HX6
              go_wp2
              exact ⟨⟨g + 1, up_V (K := 18) (by have := HG.out; omega) (by omega), by omega, by have := HG.out; omega, HF6.out⟩, by rw [up_W (K := 18) (by have := HG.out; omega) (by omega)]; exact ms_17 HG.out.2⟩
            · have p1 := gt_d hgg
              have HF2 := hid_mk hF
              clear hF hg1 hg2 hgg
              go_wp2
              exact ⟨⟨i + 1, up_V HI.out.1 (by have := HI.out; omega), HI.out.1, HF2.out⟩, by rw [up_W HI.out.1 (by have := HI.out; omega)]; exact ms_N HI.out.1⟩
        · obtain rfl : n = i := by omega
          have HF3 := hid_mk hF
          clear hgo hF him
          go_wp2
          have HI2 : Hid (n ≤ 100000) := hid_mk HF3.out.2.2.2
          go_loopw [8] (fun c w3 => ∃ (i : Nat), c = .int .i64 i ∧ i ≤ n ∧ C1 w w3 lo ra n rk cs L) (fun c _ => n - (intOf c).toNat)
          case atStart => exact ⟨0, rfl, Nat.zero_le _, HF3.out⟩
          case round =>
            obtain ⟨i, rfl, him, hF⟩ := hrel
            by_cases hgo : i < n
            · obtain ⟨l1, l2⟩ := lt_d hgo
              have HI : Hid (i < n ∧ n ≤ 100000) := hid_mk ⟨hgo, HI2.out⟩
              obtain ⟨v, l, go, a, c, hv, hli, rfl, rfl, c1, hown⟩ := hF.1.row hgo
              obtain ⟨K, hK⟩ : ∃ K, l.length = K := ⟨_, rfl⟩
              have hK1 : K ≤ 100000 := by have := hF.2.2.1 l (List.mem_of_getElem? hli); omega
              have lmi : (i : Int) < (n : Int) := by omega
              obtain ⟨ni, hni⟩ : ∃ ni, -(i : Int) = ni := ⟨_, rfl⟩
              have hng : wrap64 (-(i : Int)) = ni := by rw [← hni]; exact neg_w (up_i HI.out.1 HI.out.2)
              have HR : Hid ((∀ (k : Nat) x, l[k]? = some x → x = (-(i : Int), (k : Int))) ∧ l.length = K ∧ K ≤ 100000 ∧ L[i]? = some l ∧ cs[i]? = some (.slice a K c) ∧ -(i : Int) = ni) := hid_mk ⟨HW.out.2 i l hgo hli, hK, hK1, hli, hK ▸ hv, hni⟩
              have HF4 := hid_mk hF
              clear hF hv hli hown hK1 hK hgo him c1 hni
              go_wp2
              go_loopw [9] (fun c w4 => ∃ (j : Nat), c = .int .i64 j ∧ j ≤ K ∧ C1 w w4 lo (some ⟨go, 0, none⟩) n rk cs L) (fun c _ => K - (intOf c).toNat)
              case atStart => exact ⟨0, rfl, Nat.zero_le _, HF4.out⟩
              case round =>
                obtain ⟨j, rfl, hjm, hF⟩ := hrel
                obtain ⟨v, l2, go2, a2, c2, hv, hli2, e2, e3, c1, hown⟩ := hF.1.row HI.out.1
                cases e2
                rw [HR.out.2.2.2.1] at hli2
                cases hli2
                rw [HR.out.2.2.2.2.1] at hv
                cases hv
                rw [HR.out.2.1] at e3 c1 hown
                cases e3
                have HF5 := hid_mk hF
                by_cases hgj : j < K
                · obtain ⟨p1, p2⟩ := lt_d hgj
                  obtain ⟨g, cur, rfl, q1, q2, q3, -⟩ := own_cellsX hown (by omega)
                  obtain ⟨y, hy⟩ : ∃ y, l[j]? = some y := ⟨_, List.getElem?_eq_getElem (by have := HR.out.2.1; omega)⟩
                  have hyv := HR.out.1 j y hy
                  rw [HR.out.2.2.2.2.2] at hyv
                  obtain ⟨i1, i2⟩ := icl_at hy
                  rw [hyv] at i1 i2
                  have c2 : wr.cell? ⟨g, j * 2, none⟩ = some (.int .i64 ni) := q2 _ _ i1
                  have c3 : wr.cell? ⟨g, j * 2 + 1, none⟩ = some (.int .i64 (j : Int)) := q2 _ _ i2
                  have lmj : (j : Int) < (K : Int) := by omega
                  have HJ2 : Hid (j < K) := hid_mk hgj
                  have hne := neq_insY ni (j : Int)
                  clear hF hown q1 q2 q3 hy hyv i1 i2 hgj hjm l1 l2
                  go_wp2
                  exact ⟨⟨j + 1, up_V HJ2.out (by have := HR.out.2.2.1; omega), HJ2.out, HF5.out⟩, by rw [up_W HJ2.out (by have := HR.out.2.2.1; omega)]; exact ms_N HJ2.out⟩
                · obtain rfl : K = j := by omega
                  have p1 : decide ((K : Int) < (K : Int)) = false := by simp
                  clear hF hown hgj hjm l1 l2
                  go_wp2
                  exact ⟨⟨i + 1, up_V HI.out.1 (by have := HI.out; omega), HI.out.1, HF5.out⟩, by rw [up_W HI.out.1 (by have := HI.out; omega)]; exact ms_N HI.out.1⟩
            · obtain rfl : n = i := by omega
              have HF6 := hid_mk hF
              clear hgo hF him
              go_wp2
              go_ret
              exact ⟨rfl, HF6.out.2.1⟩
end Go.Proofs.YtapjfokkcgdhhaaDoor
