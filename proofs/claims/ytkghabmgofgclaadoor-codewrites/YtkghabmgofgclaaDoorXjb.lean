/- the law of chapter 18: rows that are written full -/
import Derived.Test.YtkghabmgofgclaaDoorXja
import Derived.Deep.Cut
import Derived.Test.YtkghabmgofgclaaDoorIu
namespace Go.Proofs.YtkghabmgofgclaaDoor
open Go.RowKit
set_option linter.unusedVariables false
set_option linter.unusedSimpArgs false

/-- the mark of the i-th row -/
def mkV (i : Nat) : Int := 1 + (i % 250 : Nat)
theorem mkV_b (i : Nat) : 0 ≤ mkV i ∧ mkV i ≤ 255 := by unfold mkV; omega
theorem mk_rem {i : Nat} : Int.tmod (i : Int) 250 = ((i % 250 : Nat) : Int) := by
  rw [Int.tmod_eq_emod_of_nonneg (by omega)]; omega
theorem mk_w1 (r : Nat) (h : r < 250) : wrap64 (1 + (r : Int)) = 1 + (r : Int) := by unfold wrap64; omega
theorem mk_w2 (r : Nat) (h : r < 250) : IntKind.u8.wrap (1 + (r : Int)) = 1 + (r : Int) := by
  simp [IntKind.wrap, IntKind.signed, IntKind.bits]; omega
set_option maxRecDepth 100000 in
theorem mark_any (w : World) (i : Nat) (hi : i ≤ 1000000) : Calls Tryd.prog 46 #[.int .i64 (i : Int)] w fun e w' => e = .returned (.int .u8 (mkV i)) ∧ w' = w := by
  have h1 := mk_rem (i := i)
  obtain ⟨r, hr⟩ : ∃ r, i % 250 = r := ⟨_, rfl⟩
  have hr2 : r < 250 := by omega
  have hm : mkV i = 1 + (r : Int) := by unfold mkV; rw [hr]
  rw [hr] at h1
  have h2 := mk_w1 r hr2
  have h3 := mk_w2 r hr2
  rw [hm]
  clear hr hr2 hm
  go_enter Tryd.func46, Tryd.ntmps46
  go_wp2
  go_ret
  exact ⟨rfl, rfl⟩
def grV (g : Nat) : Nat := if g < 17 then g else 90
set_option maxRecDepth 100000 in
theorem grows_any (w : World) (g : Nat) : Calls Tryd.prog 47 #[.int .i64 (g : Int)] w fun e w' => e = .returned (.int .i64 (grV g : Nat)) ∧ w' = w := by
  by_cases h : g < 17
  · have h1 : decide ((g : Int) < 17) = true := by simp; omega
    have h2 : grV g = g := if_pos h
    rw [h2]
    clear h h2
    go_enter Tryd.func47, Tryd.ntmps47
    go_wp2
    go_ret
    exact ⟨rfl, rfl⟩
  · have h1 : decide ((g : Int) < 17) = false := by simp; omega
    have h2 : grV g = 90 := if_neg h
    rw [h2]
    clear h h2
    go_enter Tryd.func47, Tryd.ntmps47
    go_wp2
    go_ret
    exact ⟨rfl, rfl⟩
end Go.Proofs.YtkghabmgofgclaaDoor
namespace Go.Proofs.YtkghabmgofgclaaDoor
open Go.RowKit
set_option linter.unusedVariables false
set_option linter.unusedSimpArgs false

theorem set_same {α : Type} {l : List α} {i : Nat} {x : α} (h : l[i]? = some x) : l.set i x = l := by
  obtain ⟨h1, rfl⟩ := List.getElem?_eq_some_iff.1 h
  exact List.set_getElem_self h1
theorem txl_nil {w : World} {lo : Nat} {v : Value} {t : List Int} : TxL w lo [] v t ↔ Byt t ∧ ∃ a c, v = .slice a t.length c ∧ w.ownsRow lo 5 1 (.slice a t.length c) t.length (bvs t) := by
  unfold TxL
  simp only [List.append_nil, List.length_nil, Nat.add_zero]
/-- rows of bytes of one's own, side by side, in a list of one's own -/
def RW (w : World) (lo : Nat) (ra : Option Addr) (n rk : Nat) (vs : List Value) (L : List (List Int)) : Prop := w.ownsRow lo 33 1 (.slice ra n rk) n vs ∧ TL w lo [] vs L ∧ Ap vs
/-- the blocks of these rows -/
def RB (vs : List Value) (k : Nat) : Prop := ∃ (j : Nat) (v : Value), vs[j]? = some v ∧ v.ownBlock = some k
section
variable {w w' : World} {lo n rk : Nat} {ra : Option Addr} {vs : List Value} {L : List (List Int)} {i : Nat} {v : Value} {l : List Int}
theorem RW.len (h : RW w lo ra n rk vs L) : vs.length = n ∧ L.length = n := by
  have h1 := h.1.1
  have h2 := h.2.1.1
  omega
theorem RW.quiet (h : RW w lo ra n rk vs L) (o : Out 0 0 w w') : RW w' lo ra n rk vs L := ⟨own_fx (S := fun _ => False) h.1 (Fx.of_out o) (fun _ _ q => q), h.2.1.quiet o, h.2.2⟩
/-- one row has another content -/
theorem RW.step {l' : List Int} (h : RW w lo ra n rk vs L) (hv : vs[i]? = some v) (hl : L[i]? = some l) (hT : TxL w' lo [] v l') (x : Fx (fun k => v.ownBlock = some k) w w') : RW w' lo ra n rk vs (L.set i l') := by
  obtain ⟨h1, h2, h3⟩ := h
  have hTi := h2.2 i v l hv hl
  refine ⟨own_fx h1 x (fun k hk e => hTi.other h1 (by decide) e hk), ⟨by rw [List.length_set]; exact h2.1, fun j u t q1 q2 => ?_⟩, h3⟩
  by_cases hj : i = j
  · subst hj
    rw [List.getElem?_set_self (List.getElem?_eq_some_iff.1 hl).1] at q2
    cases q2
    rw [hv] at q1
    cases q1
    exact hT
  · rw [List.getElem?_set_ne hj] at q2
    exact (h2.2 j u t q1 q2).fx x (fun k hk e => h3 i j v u k hj hv q1 e hk)
theorem RW.same (h : RW w lo ra n rk vs L) (hv : vs[i]? = some v) (hl : L[i]? = some l) (hT : TxL w' lo [] v l) (x : Fx (fun k => v.ownBlock = some k) w w') : RW w' lo ra n rk vs L := by
  have := h.step hv hl hT x
  rwa [set_same hl] at this
/-- a byte of a row is written -/
theorem RW.put {g c j : Nat} {y : Int} (h : RW w lo ra n rk vs L) (hv : vs[i]? = some (.slice (some ⟨g, 0, none⟩) l.length c)) (hl : L[i]? = some l) (hy : 0 ≤ y ∧ y ≤ 255) : RW (w.setCell ⟨g, j, none⟩ (.int .u8 y)) lo ra n rk vs (L.set i (l.set j y)) := by
  obtain ⟨h1, a, c', q1, q2⟩ := txl_nil.1 (h.2.1.2 i _ l hv hl)
  cases q1
  refine h.step hv hl (txl_nil.2 ⟨?_, some ⟨g, 0, none⟩, c, by rw [List.length_set], ?_⟩) ((Fx.refl (fun k => (Value.slice (some ⟨g, 0, none⟩) l.length c).ownBlock = some k) w).set (p := ⟨g, j, none⟩) (.inl rfl) _)
  · intro z hz
    rcases List.mem_or_eq_of_mem_set hz with hz | rfl
    · exact h1 z hz
    · exact hy
  · rw [List.length_set]
    have := own_put q2 j (.int .u8 y)
    unfold bvs at this ⊢
    rwa [List.map_set]
theorem rb_wide (hv : vs[i]? = some v) (x : Fx (fun k => v.ownBlock = some k) w w') : Fx (RB vs) w w' := x.wide fun k _ hk => ⟨i, v, hv, hk⟩
theorem RW.row (h : RW w lo ra n rk vs L) (hi : i < n) : ∃ v l go a c, vs[i]? = some v ∧ L[i]? = some l ∧ ra = some ⟨go, 0, none⟩ ∧ v = .slice a l.length c ∧ w.cell? ⟨go, i, none⟩ = some (.slice a l.length c) ∧ w.ownsRow lo 5 1 (.slice a l.length c) l.length (bvs l) := by
  obtain ⟨v, hv⟩ : ∃ v, vs[i]? = some v := ⟨_, List.getElem?_eq_getElem (by have := h.len; omega)⟩
  obtain ⟨l, hl⟩ : ∃ l, L[i]? = some l := ⟨_, List.getElem?_eq_getElem (by have := h.len; omega)⟩
  obtain ⟨go, cur, q1, q2, q3, -⟩ := own_cellsX h.1 (by omega)
  obtain ⟨h1, a, c, q4, q5⟩ := txl_nil.1 (h.2.1.2 i _ l hv hl)
  exact ⟨v, l, go, a, c, hv, hl, q1, q4, q4 ▸ q3 i v hv, q5⟩
end
theorem own_frozen {w : World} {E : TypeId} {sz base K cap g : Nat} {xs : List Value} (h : w.ownsRow base E sz (.slice (some ⟨g, 0, none⟩) K cap) K xs) (j : Nat) : w.frozen? ⟨g, j, none⟩ = false := by
  rcases h.2 with ⟨h0, _⟩ | ⟨q, cap2, cur, h0, hg1, hg2, _⟩
  · cases h0
  · cases h0
    exact Bl.frozen (W := w) (cs := cur) (T := E) hg2 j
theorem own_at {w : World} {E : TypeId} {sz base K cap g : Nat} {xs : List Value} (h : w.ownsRow base E sz (.slice (some ⟨g, 0, none⟩) K cap) K xs) {j : Nat} {u : Value} (hj : xs[j]? = some u) : w.cell? ⟨g, j, none⟩ = some u := by
  by_cases hK : 0 < K
  · obtain ⟨g', cur, q1, q2, q3, -⟩ := own_cellsX h hK
    cases q1
    exact q3 j u hj
  · have h1 := h.1
    obtain rfl : K = 0 := by omega
    rw [Nat.zero_mul] at h1
    rw [List.eq_nil_of_length_eq_zero h1] at hj
    cases hj
/-- a row that is grown, and written at its end: the row itself stays -/
theorem grow_row {w : World} {lo K cap m : Nat} {ta : Option Addr} {l : List Int} (hB : Byt l) (hown : w.ownsRow lo 5 1 (.slice ta K cap) K (bvs l)) (hl : l.length = K) (hlo : lo ≤ w.heap.size) (hK : K ≤ 100000) (hm : 0 < m) (hm2 : m ≤ 1000) (ty : TypeId) :
    ∃ g cap' w', (Builtin.append_ #[33, 3] ty #[.slice ta K cap, .int .i64 (m : Int)]).run Tryd.prog w = .ok (.slice (some ⟨g, 0, none⟩) (K + m) cap') w' ∧ (∃ u, w'.cell? ⟨g, K + m - 1, none⟩ = some u) ∧ w'.frozen? ⟨g, K + m - 1, none⟩ = false ∧ Fx (fun k => (Value.slice ta K cap).ownBlock = some k) w w' ∧ ∀ u, TxL (w'.setCell ⟨g, K + m - 1, none⟩ u) lo [] (.slice ta K cap) l ∧ Fx (fun k => (Value.slice ta K cap).ownBlock = some k) w (w'.setCell ⟨g, K + m - 1, none⟩ u) := by
  obtain ⟨g, cap', w', h1, h2, h3, h4, h5⟩ := zer_keep (T := 33) (I := 3) (m := m) Tryd.underlying33 Tryd.underlying3 info_u8 rfl (by decide) (by decide) (by
    intro u hu
    simp [Builtin.zeroCells, Value.cells] at hu
    obtain ⟨k, hk, rfl⟩ := hu
    rw [Nat.mod_one]
    rfl) hown hlo (by omega) hm hm2 ty
  refine ⟨g, cap', w', h1, ?_, own_frozen h2 _, h4, fun u => ⟨txl_nil.2 ⟨hB, ta, cap, by rw [hl], by rw [hl]; exact own_far h3 g (K + m - 1) (by omega) u⟩, h4.set (p := ⟨g, K + m - 1, none⟩) h5 u⟩⟩
  obtain ⟨u, hu⟩ : ∃ u, (bvs l ++ (Builtin.zeroCells (Value.int .u8 0).cells m).toList)[K + m - 1]? = some u := ⟨_, List.getElem?_eq_getElem (by have := h2.1; omega)⟩
  exact ⟨u, own_at h2 hu⟩
end Go.Proofs.YtkghabmgofgclaaDoor
namespace Go.Proofs.YtkghabmgofgclaaDoor
open Go.RowKit
set_option linter.unusedVariables false
set_option linter.unusedSimpArgs false

/-- the rows before the i-th are full of their marks -/
def Mkd (i : Nat) (L : List (List Int)) : Prop := ∀ (r : Nat) l, r < i → L[r]? = some l → ∀ x ∈ l, x = mkV r
/-- of a row the first places are -/
def Mk1 (i j : Nat) (l : List Int) : Prop := ∀ (k : Nat) x, k < j → l[k]? = some x → x = mkV i
theorem Mkd.set {i : Nat} {L : List (List Int)} (h : Mkd i L) (l : List Int) : Mkd i (L.set i l) := fun r l' hr hl => by
  rw [List.getElem?_set_ne (by omega)] at hl
  exact h r l' hr hl
theorem Mkd.up {i : Nat} {L : List (List Int)} {l : List Int} (h : Mkd i L) (hl : L[i]? = some l) (h1 : Mk1 i l.length l) : Mkd (i + 1) L := fun r l' hr hl' x hx => by
  by_cases hri : r = i
  · subst hri
    rw [hl] at hl'
    cases hl'
    obtain ⟨k, hk⟩ := List.getElem?_of_mem hx
    exact h1 k x (List.getElem?_eq_some_iff.1 hk).1 hk
  · exact h r l' (by omega) hl' x hx
theorem Mk1.set {i j : Nat} {l : List Int} (h : Mk1 i j l) : Mk1 i (j + 1) (l.set j (mkV i)) := fun k x hk hx => by
  rw [List.getElem?_set] at hx
  split at hx
  · split at hx
    · cases hx; rfl
    · cases hx
  · exact h k x (by omega) hx
/-- what the first loop of fullRows has done -/
def F1 (w wr : World) (lo : Nat) (ra : Option Addr) (n rk : Nat) (vs : List Value) (L : List (List Int)) : Prop := RW wr lo ra n rk vs L ∧ Fx (RB vs) w wr ∧ (∀ l ∈ L, l.length ≤ 100000) ∧ n ≤ 100000
theorem F1.put {w wr : World} {lo : Nat} {ra : Option Addr} {n rk : Nat} {vs : List Value} {L : List (List Int)} {i g c j : Nat} {l : List Int} {y : Int} (h : F1 w wr lo ra n rk vs L) (hv : vs[i]? = some (.slice (some ⟨g, 0, none⟩) l.length c)) (hl : L[i]? = some l) (hy : 0 ≤ y ∧ y ≤ 255) : F1 w (wr.setCell ⟨g, j, none⟩ (.int .u8 y)) lo ra n rk vs (L.set i (l.set j y)) := by
  refine ⟨h.1.put hv hl hy, h.2.1.set (p := ⟨g, j, none⟩) (.inl ⟨i, _, hv, rfl⟩) _, fun l' hl' => ?_, h.2.2.2⟩
  rcases List.mem_or_eq_of_mem_set hl' with q | rfl
  · exact h.2.2.1 l' q
  · rw [List.length_set]; exact h.2.2.1 l (List.mem_of_getElem? hl)
theorem F1.same {w wr w' : World} {lo : Nat} {ra : Option Addr} {n rk : Nat} {vs : List Value} {L : List (List Int)} {i : Nat} {v : Value} {l : List Int} (h : F1 w wr lo ra n rk vs L) (hv : vs[i]? = some v) (hl : L[i]? = some l) (hT : TxL w' lo [] v l) (x : Fx (fun k => v.ownBlock = some k) wr w') : F1 w w' lo ra n rk vs L :=
  ⟨h.1.same hv hl hT x, h.2.1.trans (rb_wide hv x), h.2.2⟩
theorem up_i {i n : Nat} (h : i < n) (hn : n ≤ 100000) : i ≤ 1000000 := by omega
theorem sub_1 {N e : Nat} (h : e + 1 = N) (hN : N ≤ 1000000) : wrap64 ((N : Int) - 1) = (e : Int) := by unfold wrap64; omega
theorem gr_b {g : Nat} (h : 1 ≤ g) : 0 < grV g ∧ grV g ≤ 1000 := by unfold grV; split <;> omega
theorem le_d {g : Nat} (h : g ≤ 17) : decide ((g : Int) ≤ 17) = true := by simp; omega
theorem gt_d {g : Nat} (h : ¬ g ≤ 17) : decide ((g : Int) ≤ 17) = false := by simp; omega
theorem ms_17 {k : Nat} (h : k ≤ 17) : 18 - (intOf (.int .i64 ((k + 1 : Nat) : Int))).toNat < 18 - (intOf (.int .i64 (k : Int))).toNat := by simp [intOf]; omega
theorem F1.drew {w wr : World} {lo : Nat} {ra : Option Addr} {n rk : Nat} {vs : List Value} {L : List (List Int)} (h : F1 w wr lo ra n rk vs L) : F1 w wr.drew lo ra n rk vs L := ⟨h.1.quiet (Out.refl 0 0 wr).drew, h.2.1.drew, h.2.2⟩
set_option maxRecDepth 100000 in
set_option maxHeartbeats 4000000 in
theorem full_any {w : World} {lo n rk : Nat} {ra : Option Addr} {vs : List Value} {L0 : List (List Int)} (hlo : lo ≤ w.heap.size) (h0 : RW w lo ra n rk vs L0) (hl : ∀ l ∈ L0, l.length ≤ 100000) (hn : n ≤ 100000) :
    Calls Tryd.prog 25 #[.slice ra n rk] w fun e w' => e = .returned (.bool true) ∧ Fx (RB vs) w w' := by
  have HF : Hid (F1 w w lo ra n rk vs L0) := hid_mk ⟨h0, Fx.refl _ _, hl, hn⟩
  have HLO := hid_mk hlo
  clear h0 hl hn hlo
  go_enter Tryd.func25, Tryd.ntmps25
  go_wp2
  go_loopw [3] (fun c wr => ∃ (i : Nat) (L : List (List Int)), c = .int .i64 i ∧ i ≤ n ∧ F1 w wr lo ra n rk vs L ∧ Mkd i L) (fun c _ => n - (intOf c).toNat)
  case atStart => exact ⟨0, L0, rfl, Nat.zero_le _, HF.out, fun r l hr => by omega⟩
  case round =>
    obtain ⟨i, L, rfl, him, hF, hM⟩ := hrel
    by_cases hgo : i < n
    · obtain ⟨l1, l2⟩ := lt_d hgo
      have HI : Hid (i < n ∧ n ≤ 100000) := hid_mk ⟨hgo, hF.2.2.2⟩
      obtain ⟨v, l, go, a, c, hv, hli, rfl, rfl, c1, hown⟩ := hF.1.row hgo
      obtain ⟨m, hm⟩ : ∃ m, l.length = m := ⟨_, rfl⟩
      have HW : Hid (F1 w wr lo (some ⟨go, 0, none⟩) n rk vs L ∧ Mkd i L ∧ L[i]? = some l ∧ l.length = m ∧ vs[i]? = some (.slice a m c)) := hid_mk ⟨hF, hM, hli, hm, hm ▸ hv⟩
      have lmi : (i : Int) < (n : Int) := by omega
      clear hF hM hv hli hown hgo him c1 hm
      go_wp2
      go_loopw [4] (fun cj wz => ∃ (j : Nat) (L' : List (List Int)) (l' : List Int), cj = .int .i64 j ∧ j ≤ m ∧ F1 w wz lo (some ⟨go, 0, none⟩) n rk vs L' ∧ Mkd i L' ∧ L'[i]? = some l' ∧ l'.length = m ∧ Mk1 i j l') (fun cj _ => m - (intOf cj).toNat)
      case atStart => exact ⟨0, L, l, rfl, Nat.zero_le _, HW.out.1, HW.out.2.1, HW.out.2.2.1, HW.out.2.2.2.1, fun k x hk => by omega⟩
      case round =>
        obtain ⟨j, L', l', rfl, hjm, hF, hM, hli, hm, hM1⟩ := hrel
        obtain ⟨v, l2, go2, a2, c2, hv, hli2, e2, e3, c1, hown⟩ := hF.1.row HI.out.1
        cases e2
        rw [hli] at hli2
        cases hli2
        rw [HW.out.2.2.2.2] at hv
        cases hv
        rw [hm] at e3 c1 hown
        cases e3
        have HJ : Hid (F1 w wr lo (some ⟨go, 0, none⟩) n rk vs L' ∧ Mkd i L' ∧ L'[i]? = some l' ∧ l'.length = m ∧ Mk1 i j l' ∧ m ≤ 100000) := hid_mk ⟨hF, hM, hli, hm, hM1, by have := hF.2.2.1 l' (List.mem_of_getElem? hli); omega⟩
        by_cases hgj : j < m
        · obtain ⟨p1, p2⟩ := lt_d hgj
          obtain ⟨g, cur, rfl, q1, q2, q3, -⟩ := own_cellsX hown (by omega)
          obtain ⟨y0, hy0⟩ : ∃ y, (bvs l')[j]? = some y := ⟨_, List.getElem?_eq_getElem (by rw [bvs_len]; omega)⟩
          have c2 := q2 j y0 hy0
          have f2 := q3.frozen j
          have lmj : (j : Int) < (m : Int) := by omega
          have HJ2 : Hid (j < m) := hid_mk hgj
          clear hF hM hli hm hM1 hown q1 q2 q3 hy0 hgj hjm l1 l2
          go_wp2_with fail
          obtain ⟨V3, hV3⟩ : ∃ V3, wr.drew = V3 := ⟨_, rfl⟩
          have HMa := hid_mk (mark_any V3 i (up_i HI.out.1 HI.out.2))
          refine wp_region_T (S := fun w' => w'.cell? ⟨go, i, none⟩ = some (.slice (some ⟨g, 0, none⟩) m c)) (z := 8) (by kernel_rfl) ?hS1 (fun hHeld => ?rest1)
          case hS1 => exact c1
          refine tkT 0 ?_
          refine tkT 1 ?_
          refine tkT 2 ?_
          refine tkT 3 ?_
          refine tkT 4 ?_
          refine tkT 5 ?_
          refine wpAnyT_one (i := 6) (by kernel_rfl) rfl (fun KK hK => ?_)
          simp only [xa, xb, xc]
          go_simp
          refine calls_same HMa.out ?_
          refine hK.out _ _ ?hS8 (fun hHeld2 => ?rest8)
          case hS8 => exact (by rw [← hV3]; exact c1)
          clear hK KK
          (try clear hHeld)
          have hHeld := hHeld2
          clear hHeld2
          (try simp only [Act.put, xa, xb, xc, xd, xe, xf])
          refine tkT 7 ?_
          refine wpAnyT_last (by kernel_rfl) rfl (fun KK hK => ?_)
          simp only [xa, xb, xc]
          have s9 : V3.cell? ⟨g, j, none⟩ = some y0 := (by rw [← hV3]; exact c2)
          have z9 : V3.frozen? ⟨g, j, none⟩ = false := (by rw [← hV3]; exact f2)
          go_simp
          refine hK.out _ _ ?_
          clear hK KK
          (try simp only [Act.put, xa, xb, xc, xd, xe, xf])
          refine wpAnyT_done (by kernel_rfl) ?_ _
          have hF6 := F1.put (j := j) (⟨HJ.out.1.1.quiet (Out.refl 0 0 wr).drew, HJ.out.1.2.1.drew, HJ.out.1.2.2⟩ : F1 w wr.drew lo (some ⟨go, 0, none⟩) n rk vs L') (by rw [HJ.out.2.2.2.1]; exact HW.out.2.2.2.2) HJ.out.2.2.1 (mkV_b i)
          rw [hV3] at hF6
          obtain ⟨W6, hW6⟩ : ∃ W6, V3.setCell ⟨g, j, none⟩ (.int .u8 (mkV i)) = W6 := ⟨_, rfl⟩
          rw [hW6] at hF6 ⊢
          have HF6 := hid_mk hF6
          clear hF6 hW6 hHeld hV3 HMa c1 c2 f2
          go_wp2
          exact ⟨⟨j + 1, _, _, up_V HJ2.out (by have := HJ.out.2.2.2.2.2; omega), HJ2.out, HF6.out, HJ.out.2.1.set _, List.getElem?_set_self (List.getElem?_eq_some_iff.1 HJ.out.2.2.1).1, by rw [List.length_set]; exact HJ.out.2.2.2.1, HJ.out.2.2.2.2.1.set⟩, by rw [up_W HJ2.out (by have := HJ.out.2.2.2.2.2; omega)]; exact ms_N HJ2.out⟩
        · obtain rfl : m = j := by omega
          have p1 : decide ((m : Int) < (m : Int)) = false := by simp
          clear hF hM hli hM1 hown hgj hjm l1 l2 hm
          go_wp2
          exact ⟨⟨i + 1, L', up_V HI.out.1 (by have := HI.out; omega), HI.out.1, HJ.out.1, HJ.out.2.1.up HJ.out.2.2.1 (by rw [HJ.out.2.2.2.1]; exact HJ.out.2.2.2.2.1)⟩, by rw [up_W HI.out.1 (by have := HI.out; omega)]; exact ms_N HI.out.1⟩
    · obtain rfl : n = i := by omega
      have l1 : decide ((n : Int) < (n : Int)) = false := by simp
      have HW : Hid (F1 w wr lo ra n rk vs L ∧ Mkd n L) := hid_mk ⟨hF, hM⟩
      clear hgo hF hM him
      go_wp2
      go_loopw [5] (fun c wr => ∃ (i : Nat), c = .int .i64 i ∧ i ≤ n ∧ F1 w wr lo ra n rk vs L) (fun c _ => n - (intOf c).toNat)
      case atStart => exact ⟨0, rfl, Nat.zero_le _, HW.out.1⟩
      case round =>
        obtain ⟨i, rfl, him, hF⟩ := hrel
        by_cases hgo : i < n
        · obtain ⟨l1, l2⟩ := lt_d hgo
          have HI : Hid (i < n ∧ n ≤ 100000) := hid_mk ⟨hgo, hF.2.2.2⟩
          have HFi := hid_mk hF
          clear hF hgo him
          go_wp2
          go_loopw [6] (fun c wr => ∃ (g : Nat), c = .int .i64 g ∧ 1 ≤ g ∧ g ≤ 18 ∧ F1 w wr lo ra n rk vs L) (fun c _ => 18 - (intOf c).toNat)
          case atStart => exact ⟨1, rfl, by omega, by omega, HFi.out⟩
          case round =>
            obtain ⟨g, rfl, hg1, hg2, hF⟩ := hrel
            by_cases hgg : g ≤ 17
            · have p1 := le_d hgg
              obtain ⟨v, l, go, a, c, hv, hli, rfl, rfl, c1, hown⟩ := hF.1.row HI.out.1
              obtain ⟨K, hK⟩ : ∃ K, l.length = K := ⟨_, rfl⟩
              have lmi : (i : Int) < (n : Int) := by have := HI.out.1; omega
              have hTi := hF.1.2.1.2 i _ l hv hli
              have hK1 : K ≤ 100000 := by have := hF.2.2.1 l (List.mem_of_getElem? hli); omega
              have hgo : (Value.slice a l.length c).ownBlock ≠ some go := fun e => hTi.other hF.1.1 (by decide) e rfl
              rw [hK] at hgo
              obtain ⟨G, hG⟩ : ∃ G, grV g = G := ⟨_, rfl⟩
              obtain ⟨hG1, hG2⟩ := gr_b hg1
              rw [hG] at hG1 hG2
              obtain ⟨N, hN⟩ : ∃ N, K + G = N := ⟨_, rfl⟩
              obtain ⟨e, he⟩ : ∃ e, K + G - 1 = e := ⟨_, rfl⟩
              obtain ⟨g4, cap4, w6, hr, ⟨u, cu⟩, fu, x6, hst⟩ := grow_row (w := wr.drew) (m := G) hTi.1 (by rw [hK] at hown; exact own_fx (S := fun _ => False) hown (Fx.of_out (Out.refl 0 0 wr).drew) (fun _ _ q => q)) hK (Nat.le_trans HLO.out hF.2.1.size) hK1 hG1 hG2 33
              have d1 : w6.cell? ⟨go, i, none⟩ = some (.slice a K c) := by
                refine x6.cell (b := go) (o := i) ?_ hgo
                rw [hK] at c1
                exact c1
              rw [hK] at c1
              rw [hN] at hr
              rw [he] at cu fu hst
              have hsub := sub_1 (N := N) (e := e) (by omega) (by omega)
              have lt : (e : Int) < (N : Int) := by omega
              have hF6 := hF.drew.same hv hli (by rw [hK]; exact (hst (.int .u8 254)).1) (by rw [hK]; exact (hst (.int .u8 254)).2)
              have HF6 := hid_mk hF6
              have HR := hid_mk hr
              have HGr := hid_mk (fun V : World => hG ▸ grows_any V g)
              have HG : Hid (1 ≤ g ∧ g ≤ 17) := hid_mk ⟨hg1, hgg⟩
              have HX6 : Hid (w6.cell? ⟨go, i, none⟩ = some (.slice a K c)) := hid_mk d1
              have HCU : Hid (w6.cell? ⟨g4, e, none⟩ = some u ∧ w6.frozen? ⟨g4, e, none⟩ = false) := hid_mk ⟨cu, fu⟩
              have HSU := hid_mk hsub
              clear hF hv hli hown hTi hK1 hgo hG hG1 hG2 hN he hr cu fu x6 hst d1 hsub hF6 hg1 hg2 hgg hK l1 l2
              go_wp2_with fail
              obtain ⟨V3, hV3⟩ : ∃ V3, wr.drew = V3 := ⟨_, rfl⟩
              rw [hV3] at HR
              refine wp_region_held_drew (S := fun w' => w'.cell? ⟨go, i, none⟩ = some (.slice a K c)) (by kernel_rfl) ?hS10 (fun hHeld => ?rest10)
              case hS10 => exact c1
              refine tk 0 ?_
              refine tk 1 ?_
              refine tk 2 ?_
              refine tk 3 ?_
              refine tk 4 ?_
              refine wpAnyH_ready (rs := [5]) (by kernel_rfl) (by simp) ?_
              refine AllReadyH.cons rfl (fun KK hK => ?_) AllReadyH.nil
              simp only [xa, xb, xc]
              go_simp
              refine calls_same (HGr.out _) ?_
              refine hK.out _ _ ?hS16 (fun hHeld2 => ?rest16)
              case hS16 => exact (by rw [← hV3]; exact c1)
              clear hK KK
              (try clear hHeld)
              have hHeld := hHeld2
              clear hHeld2
              (try simp only [Act.put, xa, xb, xc, xd, xe, xf])
              refine wpAnyH_ready (rs := [6]) (by kernel_rfl) (by simp) ?_
              refine AllReadyH.cons rfl (fun KK hK => ?_) AllReadyH.nil
              simp only [xa, xb, xc]
              refine app_sr V3 _ _ _ _ rfl _ _ rfl rfl HR.out ?_
              refine hK.out _ _ ?hS17 (fun hHeld2 => ?rest17)
              case hS17 => exact HX6.out
              clear hK KK
              (try clear hHeld)
              have hHeld := hHeld2
              clear hHeld2
              (try simp only [Act.put, xa, xb, xc, xd, xe, xf])
              refine tk 7 ?_
              refine wpAnyH_done (by kernel_rfl) ?_ _
              obtain ⟨cu, fu⟩ := HCU.out
              have hsub := HSU.out
              clear hHeld hV3 HR HGr c1 HX6
              go_wp2
              exact ⟨⟨g + 1, up_V (K := 18) (by have := HG.out; omega) (by omega), by omega, by have := HG.out; omega, HF6.out⟩, by rw [up_W (K := 18) (by have := HG.out; omega) (by omega)]; exact ms_17 HG.out.2⟩
            · have p1 := gt_d hgg
              have HF2 := hid_mk hF
              clear hF hg1 hg2 hgg
              go_wp2
              exact ⟨⟨i + 1, up_V HI.out.1 (by have := HI.out; omega), HI.out.1, HF2.out⟩, by rw [up_W HI.out.1 (by have := HI.out; omega)]; exact ms_N HI.out.1⟩
        · obtain rfl : n = i := by omega
          have HF3 := hid_mk hF
          clear hgo hF him
          go_wp2
          have HI2 : Hid (n ≤ 100000) := hid_mk HF3.out.2.2.2
          go_loopw [8] (fun c w3 => ∃ (i : Nat), c = .int .i64 i ∧ i ≤ n ∧ F1 w w3 lo ra n rk vs L) (fun c _ => n - (intOf c).toNat)
          case atStart => exact ⟨0, rfl, Nat.zero_le _, HF3.out⟩
          case round =>
            obtain ⟨i, rfl, him, hF⟩ := hrel
            by_cases hgo : i < n
            · obtain ⟨l1, l2⟩ := lt_d hgo
              have HI : Hid (i < n ∧ n ≤ 100000) := hid_mk ⟨hgo, HI2.out⟩
              obtain ⟨v, l, go, a, c, hv, hli, rfl, rfl, c1, hown⟩ := hF.1.row hgo
              obtain ⟨K, hK⟩ : ∃ K, l.length = K := ⟨_, rfl⟩
              have hK1 : K ≤ 100000 := by have := hF.2.2.1 l (List.mem_of_getElem? hli); omega
              have lmi : (i : Int) < (n : Int) := by omega
              have HR : Hid ((∀ x ∈ l, x = mkV i) ∧ l.length = K ∧ K ≤ 100000 ∧ L[i]? = some l ∧ vs[i]? = some (.slice a K c)) := hid_mk ⟨HW.out.2 i l hgo hli, hK, hK1, hli, hK ▸ hv⟩
              have HF4 := hid_mk hF
              clear hF hv hli hown hK1 hK hgo him c1
              go_wp2
              go_loopw [9] (fun c w4 => ∃ (j : Nat), c = .int .i64 j ∧ j ≤ K ∧ F1 w w4 lo (some ⟨go, 0, none⟩) n rk vs L) (fun c _ => K - (intOf c).toNat)
              case atStart => exact ⟨0, rfl, Nat.zero_le _, HF4.out⟩
              case round =>
                obtain ⟨j, rfl, hjm, hF⟩ := hrel
                obtain ⟨v, l2, go2, a2, c2, hv, hli2, e2, e3, c1, hown⟩ := hF.1.row HI.out.1
                cases e2
                rw [HR.out.2.2.2.1] at hli2
                cases hli2
                rw [HR.out.2.2.2.2] at hv
                cases hv
                rw [HR.out.2.1] at e3 c1 hown
                cases e3
                have HF5 := hid_mk hF
                by_cases hgj : j < K
                · obtain ⟨p1, p2⟩ := lt_d hgj
                  obtain ⟨g, cur, rfl, q1, q2, q3, -⟩ := own_cellsX hown (by omega)
                  obtain ⟨y, hy⟩ : ∃ y, l[j]? = some y := ⟨_, List.getElem?_eq_getElem (by have := HR.out.2.1; omega)⟩
                  have hyv : y = mkV i := HR.out.1 y (List.mem_of_getElem? hy)
                  have c2 : wr.cell? ⟨g, j, none⟩ = some (.int .u8 (mkV i)) := q2 j _ (by unfold bvs; rw [List.getElem?_map, hy, hyv]; rfl)
                  have lmj : (j : Int) < (K : Int) := by omega
                  have HJ2 : Hid (j < K) := hid_mk hgj
                  obtain ⟨mk, hmk⟩ : ∃ mk, mkV i = mk := ⟨_, rfl⟩
                  have HMa := hid_mk (fun V : World => hmk ▸ mark_any V i (up_i HI.out.1 HI.out.2))
                  rw [hmk] at c2
                  clear hF hown q1 q2 q3 hy hyv hgj hjm l1 l2 hmk
                  go_wp2_with fail
                  obtain ⟨V3, hV3⟩ : ∃ V3, wr.drew = V3 := ⟨_, rfl⟩
                  refine wp_region_held_drew (S := fun w' => w'.cell? ⟨go, i, none⟩ = some (.slice (some ⟨g, 0, none⟩) K c) ∧ w'.cell? ⟨g, j, none⟩ = some (.int .u8 mk)) (by kernel_rfl) ?hS19 (fun hHeld => ?rest19)
                  case hS19 => exact ⟨c1, c2⟩
                  refine tk 0 ?_
                  refine tk 1 ?_
                  refine tk 2 ?_
                  refine tk 3 ?_
                  refine tk 4 ?_
                  refine tk 5 ?_
                  refine tk 6 ?_
                  refine tk 7 ?_
                  refine wpAnyH_ready (rs := [8]) (by kernel_rfl) (by simp) ?_
                  refine AllReadyH.cons rfl (fun KK hK => ?_) AllReadyH.nil
                  simp only [xa, xb, xc]
                  go_simp
                  refine calls_same (HMa.out _) ?_
                  refine hK.out _ _ ?hS28 (fun hHeld2 => ?rest28)
                  case hS28 => exact (by rw [← hV3]; exact ⟨c1, c2⟩)
                  clear hK KK
                  (try clear hHeld)
                  have hHeld := hHeld2
                  clear hHeld2
                  (try simp only [Act.put, xa, xb, xc, xd, xe, xf])
                  refine tk 9 ?_
                  refine wpAnyH_done (by kernel_rfl) ?_ _
                  have HF6 : Hid (F1 w V3 lo (some ⟨go, 0, none⟩) n rk vs L) := hid_mk (by rw [← hV3]; exact HF5.out.drew)
                  clear hHeld hV3 HMa c1 c2
                  go_wp2
                  exact ⟨⟨j + 1, up_V HJ2.out (by have := HR.out.2.2.1; omega), HJ2.out, HF6.out⟩, by rw [up_W HJ2.out (by have := HR.out.2.2.1; omega)]; exact ms_N HJ2.out⟩
                · obtain rfl : K = j := by omega
                  have p1 : decide ((K : Int) < (K : Int)) = false := by simp
                  clear hF hown hgj hjm l1 l2
                  go_wp2
                  exact ⟨⟨i + 1, up_V HI.out.1 (by have := HI.out; omega), HI.out.1, HF5.out⟩, by rw [up_W HI.out.1 (by have := HI.out; omega)]; exact ms_N HI.out.1⟩
            · obtain rfl : n = i := by omega
              have HF6 := hid_mk hF
              clear hgo hF him
              go_wp2
              go_ret
              exact ⟨rfl, HF6.out.2.1⟩
end Go.Proofs.YtkghabmgofgclaaDoor
namespace Go.Proofs.YtkghabmgofgclaaDoor
open Go.RowKit
set_option linter.unusedVariables false
set_option linter.unusedSimpArgs false

theorem mk_ap {T E : TypeId} {z : Value} {sz by_ : Nat} (hT : Tryd.prog.underlying T = some (.slice E)) (hinf : (Tryd.prog.info? E).map (fun i => (i.zero, i.size, i.bytes)) = some (some z, sz, by_)) (hz : z.cells.size = sz) (hsz : 0 < sz) (hby : by_ ≤ 1000) {w : World} {base K cap m c p : Nat} {ta : Option Addr} {xs zs : List Value} (hown : w.ownsRow base E sz (.slice ta K cap) K xs) (hbase : base ≤ w.heap.size) (hp : Bl w p zs.toArray E) (hl : zs.length = m * sz) (h1 : ∀ u ∈ zs, u.oneCell' = true) (hK : K ≤ 2000000) (hm : 0 < m) (hm2 : m ≤ 2000000) (ty : TypeId) :
    ∃ g cap' w', (Builtin.append_ #[T, T] ty #[.slice ta K cap, .slice (some ⟨p, 0, none⟩) m c]).run Tryd.prog w = .ok (.slice (some ⟨g, 0, none⟩) (K + m) cap') w' ∧ w'.ownsRow base E sz (.slice (some ⟨g, 0, none⟩) (K + m) cap') (K + m) (xs ++ zs) ∧ Fx (fun k => (Value.slice ta K cap).ownBlock = some k) w w' ∧ ((Value.slice ta K cap).ownBlock = some g ∨ w.heap.size ≤ g) := by
  obtain ⟨a', cap', w', q1, q2, q3, q4⟩ := app_at hT hinf hz hsz hby (c := c) hown hbase (bl_src hp m) hl h1 hK hm2 ty
  obtain ⟨g, cap2, h, _⟩ := q2.form (by omega)
  cases h
  refine ⟨g, cap', w', q1, q2, q3, ?_⟩
  rcases q4 with q4 | q4
  · exact .inl q4.symm
  · exact .inr (by cases q4; exact Nat.le_refl _)
/-- what is kept: the rows, and what they were -/
def KR (w : World) (lo bk n m : Nat) (ra : Option Addr) (rk : Nat) (wa : Option Addr) (wk : Nat) (rvs wvs : List Value) (ls ms : List (List Int)) : Prop :=
  Bl w bk #[.slice ra n rk, .slice wa m wk, .slice none 0 0, .slice none 0 0] 31 ∧ RW w lo ra n rk rvs ls ∧ w.ownsRow lo 33 1 (.slice wa m wk) m wvs ∧ TL w lo [] wvs ms ∧ (∀ k, (Value.slice ra n rk).ownBlock = some k → (Value.slice wa m wk).ownBlock ≠ some k) ∧ bk < lo
section
variable {w w' w6 : World} {lo bk n m : Nat} {ra : Option Addr} {rk : Nat} {wa : Option Addr} {wk : Nat} {rvs wvs : List Value} {ls ms : List (List Int)} {v : Value} {t : List Int} {g cap' : Nat}
theorem KR.quiet (h : KR w lo bk n m ra rk wa wk rvs wvs ls ms) (o : Out 0 0 w w') : KR w' lo bk n m ra rk wa wk rvs wvs ls ms := ⟨h.1.kept o (.inr (Nat.zero_le _)), h.2.1.quiet o, own_fx (S := fun _ => False) h.2.2.1 (Fx.of_out o) (fun _ _ q => q), h.2.2.2.1.quiet o, h.2.2.2.2⟩
theorem KR.pushR {N : Nat} (h : KR w lo bk n m ra rk wa wk rvs wvs ls ms) (hv : TxL w lo [] v t) (hN : ∀ (j : Nat) a k, rvs[j]? = some a → a.ownBlock = some k → k < N) (hn : ∀ k, v.ownBlock = some k → N ≤ k) (q1 : w6.ownsRow lo 33 1 (.slice (some ⟨g, 0, none⟩) (n + 1) cap') (n + 1) (rvs ++ [v])) (q2 : Fx (fun k => (Value.slice ra n rk).ownBlock = some k) w w6) (q3 : (Value.slice ra n rk).ownBlock = some g ∨ w.heap.size ≤ g) :
    KR (w6.setCell ⟨bk, 0, none⟩ (.slice (some ⟨g, 0, none⟩) (n + 1) cap')) lo bk (n + 1) m (some ⟨g, 0, none⟩) cap' wa wk (rvs ++ [v]) wvs (ls ++ [t]) ms := by
  obtain ⟨h1, ⟨h2, h3, h4⟩, h5, h6, h7, h8⟩ := h
  have hs : Fx (fun k => k = bk) w6 (w6.setCell ⟨bk, 0, none⟩ (.slice (some ⟨g, 0, none⟩) (n + 1) cap')) := (Fx.refl (fun k => k = bk) _).set (p := ⟨bk, 0, none⟩) (.inl rfl) _
  have hlo : ∀ k, (Value.slice ra n rk).ownBlock = some k → lo ≤ k := fun k hk => (own_ge h2 hk).1
  have g5 := own_fx h5 q2 (fun k hk e => h7 k e hk)
  have gT := (h3.up hv).fx q2 (fun j' v' t' k z1 z2 z3 => ((h3.up hv).2 j' v' t' z1 z2).other h2 (by decide) z3)
  have gW := h6.fx q2 (fun j' v' t' k z1 z2 z3 => (h6.2 j' v' t' z1 z2).other h2 (by decide) z3)
  refine ⟨(h1.fx q2 (fun e => by have := hlo bk e; omega)).set 0 _, ⟨own_fx q1 hs (fun k hk e => by have := (own_ge q1 hk).1; omega), gT.fx hs (fun j' v' t' k z1 z2 z3 e => by have := ((gT.2 j' v' t' z1 z2).ob z3).1; omega), h4.up hN hn⟩, own_fx g5 hs (fun k hk e => by have := (own_ge g5 hk).1; omega), gW.fx hs (fun j' v' t' k z1 z2 z3 e => by have := ((gW.2 j' v' t' z1 z2).ob z3).1; omega), ?_, h8⟩
  intro k hk hk'
  cases hk
  rcases q3 with q | q
  · exact h7 _ q hk'
  · exact absurd (own_ge h5 hk').2 (Nat.not_lt.2 q)
theorem KR.pushW (h : KR w lo bk n m ra rk wa wk rvs wvs ls ms) (hv : TxL w lo [] v t) (q1 : w6.ownsRow lo 33 1 (.slice (some ⟨g, 0, none⟩) (m + 1) cap') (m + 1) (wvs ++ [v])) (q2 : Fx (fun k => (Value.slice wa m wk).ownBlock = some k) w w6) (q3 : (Value.slice wa m wk).ownBlock = some g ∨ w.heap.size ≤ g) :
    KR (w6.setCell ⟨bk, 1, none⟩ (.slice (some ⟨g, 0, none⟩) (m + 1) cap')) lo bk n (m + 1) ra rk (some ⟨g, 0, none⟩) cap' rvs (wvs ++ [v]) ls (ms ++ [t]) := by
  obtain ⟨h1, ⟨h2, h3, h4⟩, h5, h6, h7, h8⟩ := h
  have hs : Fx (fun k => k = bk) w6 (w6.setCell ⟨bk, 1, none⟩ (.slice (some ⟨g, 0, none⟩) (m + 1) cap')) := (Fx.refl (fun k => k = bk) _).set (p := ⟨bk, 1, none⟩) (.inl rfl) _
  have hlo : ∀ k, (Value.slice wa m wk).ownBlock = some k → lo ≤ k := fun k hk => (own_ge h5 hk).1
  have g2 := own_fx h2 q2 (fun k hk e => h7 k hk e)
  have gT := h3.fx q2 (fun j' v' t' k z1 z2 z3 => (h3.2 j' v' t' z1 z2).other h5 (by decide) z3)
  have gW := (h6.up hv).fx q2 (fun j' v' t' k z1 z2 z3 => ((h6.up hv).2 j' v' t' z1 z2).other h5 (by decide) z3)
  refine ⟨(h1.fx q2 (fun e => by have := hlo bk e; omega)).set 1 _, ⟨own_fx g2 hs (fun k hk e => by have := (own_ge g2 hk).1; omega), gT.fx hs (fun j' v' t' k z1 z2 z3 e => by have := ((gT.2 j' v' t' z1 z2).ob z3).1; omega), h4⟩, own_fx q1 hs (fun k hk e => by have := (own_ge q1 hk).1; omega), gW.fx hs (fun j' v' t' k z1 z2 z3 e => by have := ((gW.2 j' v' t' z1 z2).ob z3).1; omega), ?_, h8⟩
  intro k hk hk'
  cases hk'
  rcases q3 with q | q
  · exact h7 _ hk q
  · exact absurd (own_ge h2 hk).2 (Nat.not_lt.2 q)
end
set_option maxRecDepth 100000 in
set_option maxHeartbeats 4000000 in
theorem bytes_any {w : World} {lo bk n N : Nat} {ra : Option Addr} {rk : Nat} {wa : Option Addr} {wk : Nat} {rvs wvs : List Value} {ls : List (List Int)} {t : List Int} (a1 a2 : Option Addr) (K c1 c2 : Nat) (hlo : lo ≤ w.heap.size) (hn : n ≤ 100000) (h : KR w lo bk n n ra rk wa wk rvs wvs ls ls) (hv : TxL w lo [] (.slice a1 K c1) t) (hu : TxL w lo [] (.slice a2 K c2) t) (hN : ∀ (j : Nat) a k, rvs[j]? = some a → a.ownBlock = some k → k < N) (hN2 : ∀ k, (Value.slice a1 K c1).ownBlock = some k → N ≤ k) :
    Calls Tryd.prog 24 #[.pointer (some ⟨bk, 0, none⟩), .slice a1 K c1, .slice a2 K c2] w fun e w' => e = .returned (.tuple #[]) ∧ ∃ ra' rk' wa' wk', KR w' lo bk (n + 1) (n + 1) ra' rk' wa' wk' (rvs ++ [.slice a1 K c1]) (wvs ++ [.slice a2 K c2]) (ls ++ [t]) (ls ++ [t]) ∧ Fx (fun k => k = bk ∨ (Value.slice ra n rk).ownBlock = some k ∨ (Value.slice wa n wk).ownBlock = some k) w w' := by
  have oA : Out 0 0 w (w.alloc (.cells #[.slice a1 K c1] 33)) := (Out.refl 0 0 w).alloc _
  have hA := h.quiet oA
  obtain ⟨g3, p3, w3, hr3, q1, q2, q3⟩ := mk_ap (m := 1) (c := 1) (zs := [.slice a1 K c1]) Tryd.underlying22 info_bs rfl (by decide) (by decide) hA.2.1.1 (Nat.le_trans hlo oA.size) (Bl.new _ _ _) rfl (by intro u hu; simp at hu; subst hu; rfl) (by omega) (by decide) (by decide) 22
  have hB := hA.pushR (hv.fx (Q := fun _ => False) (Fx.of_out oA) (fun _ _ q => q)) hN hN2 q1 q2 q3
  have xB : Fx (fun k => k = bk ∨ (Value.slice ra n rk).ownBlock = some k ∨ (Value.slice wa n wk).ownBlock = some k) w (w3.setCell ⟨bk, 0, none⟩ (.slice (some ⟨g3, 0, none⟩) (n + 1) p3)) := (((Fx.of_out oA).trans (q2.wide fun k _ hk => .inr (.inl hk)))).set (p := ⟨bk, 0, none⟩) (.inl (.inl rfl)) _
  obtain ⟨W3, hW3⟩ : ∃ W3, w3.setCell ⟨bk, 0, none⟩ (.slice (some ⟨g3, 0, none⟩) (n + 1) p3) = W3 := ⟨_, rfl⟩
  have oC : Out 0 0 W3 (W3.alloc (.cells #[.slice a2 K c2] 33)) := (Out.refl 0 0 W3).alloc _
  have k3 := (hA.1.fx q2 (fun e => by have := (own_ge hA.2.1.1 e).1; have := h.2.2.2.2.2; omega))
  rw [hW3] at hB xB
  have hu3 : TxL W3 lo [] (.slice a2 K c2) t := by
    rw [← hW3]
    have := hu.fx (Q := fun _ => False) (Fx.of_out oA) (fun _ _ q => q)
    have h5 := this.fx q2 (fun k hk => this.other hA.2.1.1 (by decide) hk)
    exact h5.fx ((Fx.refl (fun k => k = bk) _).set (p := ⟨bk, 0, none⟩) (.inl rfl) _) (fun k hk e => by have := (h5.ob hk).1; have := h.2.2.2.2.2; omega)
  have hC := hB.quiet oC
  obtain ⟨g4, p4, w4, hr4, z1, z2, z3⟩ := mk_ap (m := 1) (c := 1) (zs := [.slice a2 K c2]) Tryd.underlying22 info_bs rfl (by decide) (by decide) hC.2.2.1 (Nat.le_trans hlo (Nat.le_trans xB.size oC.size)) (Bl.new _ _ _) rfl (by intro u hu; simp at hu; subst hu; rfl) (by omega) (by decide) (by decide) 22
  have hD := hC.pushW (hu3.fx (Q := fun _ => False) (Fx.of_out oC) (fun _ _ q => q)) z1 z2 z3
  have xD : Fx (fun k => k = bk ∨ (Value.slice ra n rk).ownBlock = some k ∨ (Value.slice wa n wk).ownBlock = some k) w (w4.setCell ⟨bk, 1, none⟩ (.slice (some ⟨g4, 0, none⟩) (n + 1) p4)) := ((xB.trans (Fx.of_out oC)).trans (z2.wide fun k _ hk => .inr (.inr hk))).set (p := ⟨bk, 1, none⟩) (.inl (.inl rfl)) _
  have k4 := (hC.1.fx z2 (fun e => by have := (own_ge hC.2.2.1 e).1; have := h.2.2.2.2.2; omega))
  have d0 := h.1.cell (i := 0) rfl
  have d1 := k3.cell (i := 0) rfl
  have d2 := k3.frozen 0
  have d3 := hB.1.cell (i := 1) rfl
  have d4 := k4.cell (i := 1) rfl
  have d5 := k4.frozen 1
  have HR3 := hid_mk hr3
  have HR4 := hid_mk hr4
  have HD := hid_mk (And.intro hD xD)
  clear hA hB hC hD xB xD q1 q2 q3 z1 z2 z3 k3 k4 hr3 hr4 hu3 hv hu hN hN2 h hlo hn oA oC
  go_enter Tryd.func24, Tryd.ntmps24
  go_upto_region 1 with (at_builtin; refine app_st rfl _ _ _ _ rfl rfl rfl HR3.out ?_)
  (try rw [hW3])
  clear hW3
  go_wp2_with (at_builtin; refine app_st rfl _ _ _ _ rfl rfl rfl HR4.out ?_)
  exact bodyPost_end (results_none Tryd.results24 _ _ _) rfl ⟨rfl, _, _, _, _, HD.out.1, HD.out.2⟩
set_option maxRecDepth 100000 in
theorem codes_nil (w : World) : Calls Tryd.prog 26 #[.slice none 0 0] w fun e w' => e = .returned (.bool true) ∧ w' = w := by
  go_enter Tryd.func26, Tryd.ntmps26
  go_wp2
  go_loopw [3] (fun c wr => c = .int .i64 0 ∧ wr = w) (fun _ _ => 0)
  case atStart => exact ⟨rfl, rfl⟩
  case round =>
    obtain ⟨rfl, rfl⟩ := hrel
    go_wp2
    go_loopw [5] (fun c w2 => c = .int .i64 0 ∧ w2 = wr) (fun _ _ => 0)
    case atStart => exact ⟨rfl, rfl⟩
    case round =>
      obtain ⟨rfl, rfl⟩ := hrel
      go_wp2
      go_loopw [8] (fun c w2 => c = .int .i64 0 ∧ w2 = wr) (fun _ _ => 0)
      case atStart => exact ⟨rfl, rfl⟩
      case round =>
        obtain ⟨rfl, rfl⟩ := hrel
        go_wp2
        go_ret
        exact ⟨rfl, rfl⟩
set_option maxRecDepth 100000 in
theorem outer_nil {w : World} {bk : Nat} {a b : Value} (h : Bl w bk #[a, b, .slice none 0 0, .slice none 0 0] 31) : Calls Tryd.prog 27 #[.pointer (some ⟨bk, 0, none⟩)] w fun e w' => e = .returned (.bool true) ∧ w' = w := by
  have c2 := h.cell (i := 2) rfl
  clear h
  go_enter Tryd.func27, Tryd.ntmps27
  go_wp2
  go_loopw [3] (fun c wr => c = .int .i64 0 ∧ wr = w) (fun _ _ => 0)
  case atStart => exact ⟨rfl, rfl⟩
  case round =>
    obtain ⟨rfl, rfl⟩ := hrel
    go_wp2
    go_loopw [6] (fun c w2 => c = .int .i64 0 ∧ w2 = wr) (fun _ _ => 0)
    case atStart => exact ⟨rfl, rfl⟩
    case round =>
      obtain ⟨rfl, rfl⟩ := hrel
      go_wp2
      go_loopw [10] (fun c w2 => c = .int .i64 0 ∧ w2 = wr) (fun _ _ => 0)
      case atStart => exact ⟨rfl, rfl⟩
      case round =>
        obtain ⟨rfl, rfl⟩ := hrel
        go_wp2
        go_ret
        exact ⟨rfl, rfl⟩
end Go.Proofs.YtkghabmgofgclaaDoor
namespace Go.Proofs.YtkghabmgofgclaaDoor
open Go.RowKit
set_option linter.unusedVariables false
set_option linter.unusedSimpArgs false

theorem own_blk2 {w : World} {E : TypeId} {base sz K cap g : Nat} {xs : List Value} (h : w.ownsRow base E sz (.slice (some ⟨g, 0, none⟩) K cap) K xs) : ∃ cur, Bl w g cur E := by
  rcases h.2 with ⟨h0, _⟩ | ⟨q, cap2, cur, h0, hg1, hg2, _⟩
  · cases h0
  · cases h0
    exact ⟨cur, hg2⟩
theorem own_no {w : World} {E E' : TypeId} {base sz n k : Nat} {v : Value} {xs : List Value} {cs : Array Value} (h : w.ownsRow base E sz v n xs) (hb : Bl w k cs E') (hE : E' ≠ E) : v.ownBlock ≠ some k := by
  intro e
  rcases h.2 with ⟨rfl, _⟩ | ⟨q, cap2, cur, rfl, hg1, hg2, _⟩
  · cases e
  · cases e
    have hb' : w.heap[q]? = some (.cells cs E' (0, 0)) := hb
    rw [hg2] at hb'
    cases hb'
    exact hE rfl
theorem txl_no {w : World} {lo k : Nat} {mk t : List Int} {v : Value} {E' : TypeId} {cs : Array Value} (h : TxL w lo mk v t) (hb : Bl w k cs E') (hE : E' ≠ 5) : v.ownBlock ≠ some k := by
  obtain ⟨h1, a, c, rfl, h2⟩ := h
  intro e
  exact own_no h2 hb hE (by rw [← e]; exact ob_len)
/-- what is kept stays where blocks of programs are written -/
theorem KR.fx {w w' : World} {lo bk n m : Nat} {ra : Option Addr} {rk : Nat} {wa : Option Addr} {wk : Nat} {rvs wvs : List Value} {ls ms : List (List Int)} {Q : Nat → Prop} (h : KR w lo bk n m ra rk wa wk rvs wvs ls ms) (x : Fx Q w w') (hQ : ∀ k, Q k → ∃ cs E, Bl w k cs E ∧ E ≠ 5 ∧ E ≠ 33 ∧ E ≠ 31) : KR w' lo bk n m ra rk wa wk rvs wvs ls ms := by
  obtain ⟨h1, ⟨h2, h3, h4⟩, h5, h6, h7, h8⟩ := h
  refine ⟨h1.fx x (fun q => ?_), ⟨own_fx h2 x (fun k hk q => ?_), h3.fx x (fun j v t k z1 z2 z3 q => ?_), h4⟩, own_fx h5 x (fun k hk q => ?_), h6.fx x (fun j v t k z1 z2 z3 q => ?_), h7, h8⟩
  · obtain ⟨cs, E, b1, b2, b3, b4⟩ := hQ bk q
    have b1' : w.heap[bk]? = some (.cells cs E (0, 0)) := b1
    have h1' : w.heap[bk]? = _ := h1
    rw [h1'] at b1'
    cases b1'
    exact b4 rfl
  · obtain ⟨cs, E, b1, b2, b3, b4⟩ := hQ k q
    exact own_no h2 b1 b3 hk
  · obtain ⟨cs, E, b1, b2, b3, b4⟩ := hQ k q
    exact txl_no (h3.2 j v t z1 z2) b1 b2 z3
  · obtain ⟨cs, E, b1, b2, b3, b4⟩ := hQ k q
    exact own_no h5 b1 b3 hk
  · obtain ⟨cs, E, b1, b2, b3, b4⟩ := hQ k q
    exact txl_no (h6.2 j v t z1 z2) b1 b2 z3
/-- the first instruction of the first function, and its locals, are others -/
theorem LnAt.turn {w : World} {lo gt ct gf cf gc n c : Nat} {vs : List Value} {mv : Value} {cs : List Value} {ts : List (List Int)} {fs : List (Int × Int × Int × List (Int × Int))} {P L C : Int} {y : Int × Int} {cd : List (Int × Int)} (h : LnAt w lo gt ct gf cf vs mv cs ts ((P, L, C, y :: cd) :: fs)) (hc : cs[0]? = some (.slice (some ⟨gc, 0, none⟩) n c)) :
    LnAt (((w.setCell ⟨gc, 0, none⟩ (.int .i64 1)).setCell ⟨gc, 1, none⟩ (.int .i64 77)).setCell ⟨gf, 1, none⟩ (.int .i64 3)) lo gt ct gf cf vs mv cs ts ((P, 3, C, (1, 77) :: cd) :: fs) := by
  obtain ⟨h1, h2, h3, h4, h5⟩ := h
  obtain ⟨a, c', e1, q1⟩ := h5.2.1 0 _ _ hc rfl
  cases e1
  obtain ⟨cur, bC⟩ := own_blk2 q1
  obtain ⟨cur2, bF⟩ := own_blk2 h4
  have x : Fx (fun k => k = gc ∨ k = gf) w (((w.setCell ⟨gc, 0, none⟩ (.int .i64 1)).setCell ⟨gc, 1, none⟩ (.int .i64 77)).setCell ⟨gf, 1, none⟩ (.int .i64 3)) := (((Fx.refl (fun k => k = gc ∨ k = gf) w).set (p := ⟨gc, 0, none⟩) (.inl (.inl rfl)) _).set (p := ⟨gc, 1, none⟩) (.inl (.inl rfl)) _).set (p := ⟨gf, 1, none⟩) (.inl (.inr rfl)) _
  have hne : gc ≠ gf := fun e => by
    subst e
    have b1 : w.heap[gc]? = some (.cells cur 61 (0, 0)) := bC
    have b2 : w.heap[gc]? = _ := bF
    rw [b2] at b1
    cases b1
  refine ⟨own_fx h1 x (fun k hk q => ?_), h2.fx x (fun j v t k z1 z2 z3 q => ?_), h3.fx x (fun k hk q => ?_), ?_, h5.1, fun j v f z1 z2 => ?_, h5.2.2⟩
  · rcases q with rfl | rfl
    · exact own_no h1 bC (by decide) hk
    · exact own_no h1 bF (by decide) hk
  · rcases q with rfl | rfl
    · exact txl_no (h2.2 j v t z1 z2) bC (by decide) z3
    · exact txl_no (h2.2 j v t z1 z2) bF (by decide) z3
  · obtain ⟨g, rfl, z1, z2⟩ := h3
    cases hk
    rcases q with q | q
    · subst q; have : w.heap[g]? = some (.cells cur 61 (0, 0)) := bC; rw [z2] at this; cases this
    · subst q; have : w.heap[g]? = some (.cells cur2 41 (0, 0)) := bF; rw [z2] at this; cases this
  · have x1 : Fx (fun k => k = gc) w ((w.setCell ⟨gc, 0, none⟩ (.int .i64 1)).setCell ⟨gc, 1, none⟩ (.int .i64 77)) := ((Fx.refl (fun k => k = gc) w).set (p := ⟨gc, 0, none⟩) (.inl rfl) _).set (p := ⟨gc, 1, none⟩) (.inl rfl) _
    have o1 := own_fx h4 x1 (fun k hk q => by subst q; exact own_no h4 bC (by decide) hk)
    have o2 := own_put o1 1 (.int .i64 3)
    cases cs with
    | nil => simp at hc
    | cons c0 cs => exact o2
  · have o1 := own_put (own_put q1 0 (.int .i64 1)) 1 (.int .i64 77)
    have x2 : Fx (fun k => k = gf) ((w.setCell ⟨gc, 0, none⟩ (.int .i64 1)).setCell ⟨gc, 1, none⟩ (.int .i64 77)) (((w.setCell ⟨gc, 0, none⟩ (.int .i64 1)).setCell ⟨gc, 1, none⟩ (.int .i64 77)).setCell ⟨gf, 1, none⟩ (.int .i64 3)) := (Fx.refl (fun k => k = gf) _).set (p := ⟨gf, 1, none⟩) (.inl rfl) _
    match j, z1, z2 with
    | 0, z1, z2 =>
      cases z2
      rw [hc] at z1
      cases z1
      exact ⟨_, _, rfl, own_fx o1 x2 (fun k hk q => by cases hk; exact hne q)⟩
    | j + 1, z1, z2 =>
      have hd := h5.2.1 (j + 1) v f z1 z2
      refine hd.fx x (fun k hk q => ?_)
      rcases q with rfl | rfl
      · exact h5.2.2 0 (j + 1) _ v k (by omega) hc z1 rfl hk
      · exact hd.other h4 (by decide) hk rfl
end Go.Proofs.YtkghabmgofgclaaDoor
