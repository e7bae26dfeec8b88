/- package check: slices.Repeat of one number; slices.Max -/
import Derived.Test.YthijkfcobkdihaaDoorCkk
import Derived.Test.YthijkfcobkdihaaDoorCks
import Derived.Laws.MakeOwn
import Derived.Deep.OwnRows
namespace Go.Proofs.YthijkfcobkdihaaDoor
open Go.RowKit
set_option linter.unusedVariables false
set_option linter.unusedSimpArgs false

theorem mul_one {n : Nat} (hn : n ≤ 4096) (w : World) : Calls Tryd.prog 87 #[.int .u64 1, .int .u64 n] w fun e w' => e = .returned (.tuple #[.int .u64 0, .int .u64 n]) ∧ w' = w := by
  refine (Tryd.bits_Mul 1 n (by omega) (by omega) w).mono fun e w' ⟨h1, h2⟩ => ⟨?_, h2⟩
  rw [h1, Nat.one_mul, Nat.div_eq_of_lt (by omega), Nat.mod_eq_of_lt (by omega)]
  rfl
/-- a row whose first m numbers are v -/
def RepAt (w : World) (g n m : Nat) (v : Int) : Prop := ∃ cur, Bl w g cur 3 ∧ cur.size = n ∧ ∀ j, j < m → cur[j]? = some (.int .i64 v)
theorem copy_first {w : World} {g n ub : Nat} {v : Int} {cur : Array Value} (hg : Bl w g cur 3) (hs : cur.size = n) (h0 : 0 < n) (hx : Bl w ub #[.int .i64 v] 3) : ∃ w', (Builtin.copy_ #[50, 50] 3 #[.slice (some ⟨g, 0, none⟩) n n, .slice (some ⟨ub, 0, none⟩) 1 1]).run Tryd.prog w = .ok (.int .i64 1) w' ∧ RepAt w' g n 1 v ∧ Fx (fun k => k = g) w w' := by
  have hr := run_copy_cells (P := Tryd.prog) w 50 50 3 3 g 0 n n ⟨ub, 0, none⟩ 1 1 [.int .i64 v] Tryd.underlying50 (by kernel_rfl) (by simp [Nat.min_def]; omega) (fun j u hj => by
    cases j with
    | zero => simp at hj; subst hj; exact hx.cell rfl
    | succ j => simp at hj) (fun j hj => by
    simp at hj
    subst hj
    rw [hg.cell (i := 0 + 0) (Array.getElem?_eq_getElem (by omega))]; rfl) (fun j _ => hg.frozen _) (by intro u hu; simp at hu; subst hu; rfl)
  refine ⟨_, hr, ?_, Fx.sets (S := fun k => k = g) (.inl rfl) _ _ _ (Fx.refl _ w)⟩
  obtain ⟨c1, b1, e1⟩ := Bl.sets [.int .i64 v] 0 w cur hg (by simp; omega)
  refine ⟨c1, b1, ?_, fun j hj => ?_⟩
  · have := congrArg List.length e1
    simp at this
    omega
  · obtain rfl : j = 0 := by omega
    have : c1.toList[0]? = some (.int .i64 v) := by rw [e1]; simp
    simpa using this
theorem copy_more {w : World} {g n m : Nat} {v : Int} (h : RepAt w g n m v) (hm : 0 < m) (hmn : m < n) : ∃ (c : Nat) (w' : World), (Builtin.copy_ #[50, 50] 3 #[.slice (some ⟨g, m, none⟩) (n - m) (n - m), .slice (some ⟨g, 0, none⟩) m n]).run Tryd.prog w = .ok (.int .i64 c) w' ∧ 0 < c ∧ m + c ≤ n ∧ RepAt w' g n (m + c) v ∧ Fx (fun k => k = g) w w' := by
  obtain ⟨cur, hg, hs, hv⟩ := h
  obtain ⟨c, hc⟩ : ∃ c, Nat.min m (n - m) = c := ⟨_, rfl⟩
  have hc1 : 0 < c ∧ c ≤ m ∧ m + c ≤ n := by
    rw [← hc]
    have h1 := Nat.min_le_left m (n - m)
    have h2 := Nat.min_le_right m (n - m)
    have h3 : 0 < Nat.min m (n - m) := Nat.lt_min.2 ⟨hm, by omega⟩
    exact ⟨h3, h1, by have : Nat.min m (n - m) ≤ n - m := h2; omega⟩
  have hr := run_copy_cells (P := Tryd.prog) w 50 50 3 3 g m (n - m) (n - m) ⟨g, 0, none⟩ m n (List.replicate c (.int .i64 v)) Tryd.underlying50 (by kernel_rfl) (by rw [List.length_replicate]; exact hc.symm) (fun j u hj => by
    rw [List.getElem?_replicate] at hj
    split at hj
    · rename_i hjc
      cases hj
      rw [Addr.add_lit]
      exact hg.cell (hv _ (by omega))
    · cases hj) (fun j hj => by
    rw [List.length_replicate] at hj
    rw [hg.cell (i := m + j) (Array.getElem?_eq_getElem (by omega))]; rfl) (fun j _ => hg.frozen _) (by intro u hu; rw [List.eq_of_mem_replicate hu]; rfl)
  rw [List.length_replicate] at hr
  refine ⟨c, _, hr, hc1.1, hc1.2.2, ?_, Fx.sets (S := fun k => k = g) (.inl rfl) _ _ _ (Fx.refl _ w)⟩
  obtain ⟨c1, b1, e1⟩ := Bl.sets (List.replicate c (.int .i64 v)) m w cur hg (by rw [List.length_replicate]; omega)
  refine ⟨c1, b1, ?_, fun j hj => ?_⟩
  · have := congrArg List.length e1
    simp at this
    omega
  · have : c1.toList[j]? = some (.int .i64 v) := by
      rw [e1, List.append_assoc]
      have hl : (cur.toList.take m).length = m := by rw [List.length_take, Array.length_toList]; omega
      by_cases hjm : j < m
      · rw [List.getElem?_append_left (by omega), List.getElem?_take_of_lt hjm]
        simpa using hv j hjm
      · rw [List.getElem?_append_right (by omega), hl, List.getElem?_append_left (by rw [List.length_replicate]; omega), List.getElem?_replicate, if_pos (by omega)]
    simpa using this
theorem rep_end {w : World} {g n : Nat} {v : Int} (h : RepAt w g n n v) : Bl w g (ivs (List.replicate n v)).toArray 3 := by
  obtain ⟨cur, hg, hs, hv⟩ := h
  have : cur = (ivs (List.replicate n v)).toArray := by
    apply Array.ext_getElem?
    intro j
    by_cases hj : j < n
    · rw [hv j hj, List.getElem?_toArray]
      exact (ivs_is (by rw [List.getElem?_replicate, if_pos hj])).symm
    · rw [Array.getElem?_eq_none (by omega), List.getElem?_toArray, List.getElem?_eq_none (by rw [ivs_len, List.length_replicate]; omega)]
  rw [← this]
  exact hg
theorem RepAt.drew {w : World} {g n m : Nat} {v : Int} (h : RepAt w g n m v) : RepAt w.drew g n m v := h
theorem add_w {m c n : Nat} (h : m + c ≤ n) (hn : n ≤ 4096) : IntKind.i64.wrap ((m : Int) + (c : Int)) = ((m + c : Nat) : Int) := by
  simp [IntKind.wrap, IntKind.signed, IntKind.bits]; omega
theorem ms_r {m c n : Nat} (hc : 0 < c) (h : m + c ≤ n) : n - (intOf (.int .i64 ((m + c : Nat) : Int))).toNat < n - (intOf (.int .i64 (m : Int))).toNat := by simp [intOf]; omega
set_option maxRecDepth 100000 in
set_option maxHeartbeats 1000000 in
theorem repeat_any {w : World} {n ub : Nat} {v : Int} (hn0 : 0 < n) (hn : n ≤ 4096) (hx : Bl w ub #[.int .i64 v] 3) :
    Calls Tryd.prog 73 #[.slice (some ⟨ub, 0, none⟩) 1 1, .int .i64 n] w fun e w' => ∃ dg, e = .returned (.slice (some ⟨dg, 0, none⟩) n n) ∧ Bl w' dg (ivs (List.replicate n v)).toArray 3 ∧ Out 0 0 w w' ∧ w.heap.size ≤ dg := by
  have hd : decide ((n : Int) < 0) = false := by simp
  have hcv : IntKind.u64.wrap (n : Int) = (n : Int) := by simp [IntKind.wrap, IntKind.signed, IntKind.bits]; omega
  have hc1 : IntKind.u64.wrap 1 = 1 := by decide
  have hw0 : wrap64 (n : Int) = (n : Int) := by unfold wrap64; omega
  have hbg : decide (9223372036854775807 < (n : Int)) = false := by simp; omega
  have hmk := run_make_row' (P := Tryd.prog) 50 3 (.int .i64 0) 8 Tryd.underlying50 (by kernel_rfl) rfl .i64 .i64 n (by omega) (by omega)
  obtain ⟨cur, hcur⟩ : ∃ cur, madeCells #[Value.int .i64 0] n = cur := ⟨_, rfl⟩
  have hcs : Hid (cur.size = n) := hid_mk (by rw [← hcur]; exact size_madeCells _ _)
  rw [hcur] at hmk
  have HM := hid_mk (mul_one hn)
  have HX := hid_mk hx
  have HN := hid_mk (And.intro hn0 hn)
  obtain ⟨g, hg⟩ : ∃ g, w.heap.size = g := ⟨_, rfl⟩
  obtain ⟨V, hcp, hrep, hfx⟩ := copy_first (Bl.new w cur 3) hcs.out hn0 (hx.alloc _)
  have HR : Hid (RepAt V g n 1 v) := hid_mk (by rw [← hg]; exact hrep)
  have HO : Hid (Out 0 0 w V) := hid_mk ⟨hfx.1, hfx.2.1, hfx.2.2.1, Nat.le_trans (by rw [size_alloc]; omega) hfx.size, fun z h1 _ => by
    rw [hfx.2.2.2.2 z (by rw [size_alloc]; omega) (by omega)]
    exact ((Out.refl 0 0 w).alloc (.cells cur 3)).block h1 (.inr (Nat.zero_le _))⟩
  have HG := hid_mk hg
  rw [hg] at hcp
  clear hx hn0 hn hrep hfx hcs hcur
  go_enter Tryd.func73, Tryd.ntmps73
  go_wp2_with (go_at_call 87; refine calls_same (HM.out _) ?_)
  (try rw [hg])
  clear hmk hcp hg hd hbg hcv hc1 hw0
  go_loopw [8] (fun x wr => ∃ m : Nat, x = .int .i64 m ∧ 0 < m ∧ m ≤ n ∧ RepAt wr g n m v ∧ Out 0 0 w wr) (fun x _ => n - (intOf x).toNat)
  case atStart => exact ⟨1, rfl, by decide, HN.out.1, HR.out, HO.out⟩
  case round =>
    obtain ⟨m, rfl, hm0, hmn, hrep, ho⟩ := hrel
    have HO1 := hid_mk ho
    have HR1 := hid_mk hrep
    by_cases hgo : m < n
    · have l1 := lt_dec hgo
      obtain ⟨l1, l2⟩ := l1
      obtain ⟨c, V2, hcp, hc0, hcn, hr2, hf2⟩ := copy_more hrep.drew hm0 hgo
      have hwz := add_w hcn HN.out.2
      have HC := hid_mk (And.intro hc0 hcn)
      have HR2 := hid_mk hr2
      have HF2 := hid_mk hf2
      have hmn2 : m ≤ n := hmn
      have hmn3 : (m : Int) ≤ (n : Int) := by omega
      have hne : ¬ n = m := by omega
      clear hrep ho hr2 hf2 hc0 hcn hgo hmn
      go_wp2
      refine wp_region_held_drew (S := fun _ => True) (by kernel_rfl) ?hS1 (fun hHeld => ?rest1)
      case hS1 => trivial
      refine tk 0 ?_
      refine tk 1 ?_
      refine tk 2 ?_
      refine tk 3 ?_
      refine tk 4 ?_
      refine tk 5 ?_
      refine tk 6 ?_
      refine wpAnyH_ready (rs := [7]) (by kernel_rfl) (by simp) ?_
      refine AllReadyH.cons rfl (fun KK hK => ?_) AllReadyH.nil
      simp only [xa, xb, xc]
      go_simp
      refine hK.out _ _ ?hS9 (fun hHeld2 => ?rest9)
      case hS9 => trivial
      clear hK KK
      (try clear hHeld)
      have hHeld := hHeld2
      clear hHeld2
      (try simp only [Act.put, xa, xb, xc, xd, xe, xf])
      refine tk 8 ?_
      refine tk 9 ?_
      refine wpAnyH_done (by kernel_rfl) ?_ _
      go_wp2
      go_roundw
      case rel => exact ⟨m + c, by rw [Int.natCast_add], Nat.add_pos_left (by assumption) _, HC.out.2, HR2.out, HO1.out.past (lo := g) (hi := g + 1) ⟨HF2.out.1, HF2.out.2.1, HF2.out.2.2.1, HF2.out.size, fun z h1 h2 => HF2.out.2.2.2.2 z h1 (by omega)⟩ (by have := HG.out; omega)⟩
      case measure =>
        have := ms_r HC.out.1 HC.out.2
        rw [Int.natCast_add] at this
        exact this
    · obtain rfl : m = n := by omega
      have l1 : decide ((m : Int) < (m : Int)) = false := by simp
      clear hgo hmn hrep ho
      go_wp2
      go_ret
      exact ⟨g, rfl, rep_end HR1.out, HO1.out, by have := HG.out; omega⟩
theorem ms_n {k n : Nat} (h : k < n) : n - (intOf (.int .i64 ((k + 1 : Nat) : Int))).toNat < n - (intOf (.int .i64 (k : Int))).toNat := by simp [intOf]; omega
set_option maxRecDepth 100000 in
theorem max_any {w : World} {g n c : Nat} {D : List Int} (hD : Bl w g (ivs D).toArray 3) (hl : D.length = n) (h0 : D[0]? = some 0) (hn : n ≤ 4096) :
    Calls Tryd.prog 54 #[.slice (some ⟨g, 0, none⟩) n c] w fun e w' => e = .returned (.int .i64 (mxL D)) ∧ w' = w := by
  have hn0 : 0 < n := by have := (List.getElem?_eq_some_iff.1 h0).1; omega
  have c0 := iv_cell hD h0
  have hd : decide ((n : Int) < 1) = false := by simp; omega
  have hd2 : decide (n < 1) = false := by simp; omega
  have hin : (0 : Int) < (n : Int) := by omega
  have HD := hid_mk hD
  have HL := hid_mk hl
  have HN := hid_mk hn
  have HM : Hid (mxL (D.take 1) = 0) := hid_mk (by
    rw [mx_take (k := 0) h0]
    simp [mxL])
  clear hD hl hn h0
  go_enter Tryd.func54, Tryd.ntmps54
  go_wp2
  go_loopw [3, 4] (fun a b wr => ∃ k : Nat, b = .int .i64 k ∧ 1 ≤ k ∧ k ≤ n ∧ a = .int .i64 (mxL (D.take k)) ∧ wr = w) (fun _ b _ => n - (intOf b).toNat)
  case atStart => exact ⟨1, rfl, Nat.le_refl _, hn0, by rw [HM.out], rfl⟩
  case round =>
    obtain ⟨k, rfl, hk1, hkn, rfl, rfl⟩ := hrel
    by_cases hgo : k < n
    · obtain ⟨l1, l2⟩ := lt_dec hgo
      obtain ⟨x, hx⟩ : ∃ x, D[k]? = some x := ⟨_, List.getElem?_eq_getElem (by have := HL.out; omega)⟩
      have ck := iv_cell HD.out hx
      have hmx := mx_take hx
      have hi2 : (k : Int) < (n : Int) := by omega
      have HX := hid_mk hmx
      have HK := hid_mk (And.intro hk1 hgo)
      generalize mxL (D.take k) = M at *
      clear hmx hx hgo hkn hk1
      go_wp2
      refine ⟨⟨k + 1, up_v HK.out.2 (by have := HN.out; omega), by omega, HK.out.2, by rw [HX.out], trivial⟩, ?_⟩
      rw [up_w HK.out.2 (by have := HN.out; omega)]
      exact ms_n HK.out.2
    · obtain rfl : k = n := by omega
      have l1 : decide ((k : Int) < (k : Int)) = false := by simp
      have HE : Hid (mxL (D.take k) = mxL D) := hid_mk (by rw [List.take_of_length_le (by have := HL.out; omega)])
      clear hgo hkn hk1
      go_wp2
      go_ret
      exact ⟨by rw [HE.out]; rfl, rfl⟩
end Go.Proofs.YthijkfcobkdihaaDoor
